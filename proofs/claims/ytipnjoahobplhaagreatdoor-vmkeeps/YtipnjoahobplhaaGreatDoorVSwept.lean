/- VmSwept: swept twice a state is as swept once; it stays a state of its program: the statement's own walk. -/
import Derived.Test.YtipnjoahobplhaaGreatDoorPart2
import Derived.Test.YtipnjoahobplhaaGreatDoorVmSwpW
import Derived.Test.YtipnjoahobplhaaGreatDoorPart17
import Derived.Test.YtipnjoahobplhaaGreatDoorPart24
import Derived.Deep.RegionHeld3
namespace Go.Proofs.YtipnjoahobplhaaGreatDoor
open Go.RowKit Go.Maps
def TrueC (k : FuncId) (w : World) : Prop:=∀ wk,Below w.heap.size w wk→Calls Tryz.prog k #[] wk fun e w' => e = .returned (.bool true)∧Below wk.heap.size wk w'
theorem TrueC.up {k : FuncId} {w w' : World} (h : TrueC k w) (hb : Below w.heap.size w w') : TrueC k w':=fun wk hk => h wk (below_step hb hk)
set_option maxRecDepth 20000 in
set_option maxHeartbeats 4000000 in
theorem vswept_bad (pa : Option Addr) (np pc nf fc nc cc : Nat) (fa ca : Option Addr) (st wh er : Int) (w W : World) (HW : Hid (w.alloc (.cells #[.slice fa nf fc,.slice ca nc cc,.int .i64 st,.int .i64 wh] 26) = W)) (HB : Hid (Below w.heap.size w W))
  (HX : Hid (∀ wk,Below W.heap.size W wk→wk.cell? ⟨w.heap.size,0,none⟩ = some (.slice fa nf fc)∧wk.cell? ⟨w.heap.size,1,none⟩ = some (.slice ca nc cc)∧wk.cell? ⟨w.heap.size,2,none⟩ = some (.int .i64 st)∧wk.cell? ⟨w.heap.size,3,none⟩ = some (.int .i64 wh)))
  (HR : Hid (TrueC 17 W))
  (HC : Hid (∀ wk,Below W.heap.size W wk→Calls Tryz.prog 21 #[.slice pa np pc,.agg #[.slice fa nf fc,.slice ca nc cc,.int .i64 st,.int .i64 wh]] wk fun e w' => e = .returned (.int .i64 er)∧Below wk.heap.size wk w'))
  (he : (er != 0) = true) :
  Calls Tryz.prog 7 #[.slice pa np pc,.agg #[.slice fa nf fc,.slice ca nc cc,.int .i64 st,.int .i64 wh]] w fun e w' => e = .returned (.bool true)∧Hid (Below w.heap.size w w'):=by
 go_enter Tryz.func7,Tryz.ntmps7
 go_upto_region 1 with (fail)
 rw [HW.out]
 go_wp2_with (first
  | (go_at_call 17; refine (HR.out _ hb2).mono ?_; rintro e w3 ⟨rfl,hb3'⟩; have hb3:=below_step hb2 hb3')
  | (go_at_call 21; refine (HC.out _ hb1).mono ?_; rintro e w2 ⟨rfl,hb2'⟩; have hb2:=below_step hb1 hb2'; clear hb2')
  | (go_at_call 17; refine (HR.out _ (Below.refl _ _)).mono ?_; rintro e w1 ⟨rfl,hb1⟩; obtain ⟨k0,k1,k2,k3⟩:=HX.out _ hb1))
 go_ret
 exact ⟨rfl,below_step HB.out hb3⟩
set_option maxRecDepth 20000 in
set_option maxHeartbeats 8000000 in
theorem vswept_good {np : Nat} {P : Nat→Pc} (S : Sta) (pa : Option Addr) (pc nf fc nc cc : Nat) (fa ca : Option Addr) (st wh : Int) (w W : World) (HW : Hid (w.alloc (.cells #[.slice fa nf fc,.slice ca nc cc,.int .i64 st,.int .i64 wh] 26) = W)) (HB : Hid (Below w.heap.size w W))
  (HX : Hid (∀ wk,Below W.heap.size W wk→wk.cell? ⟨w.heap.size,0,none⟩ = some (.slice fa nf fc)∧wk.cell? ⟨w.heap.size,1,none⟩ = some (.slice ca nc cc)∧wk.cell? ⟨w.heap.size,2,none⟩ = some (.int .i64 st)∧wk.cell? ⟨w.heap.size,3,none⟩ = some (.int .i64 wh)))
  (HR : Hid (TrueC 17 W))
  (HC : Hid (∀ wk,Below W.heap.size W wk→Calls Tryz.prog 21 #[.slice pa np pc,.agg #[.slice fa nf fc,.slice ca nc cc,.int .i64 st,.int .i64 wh]] wk fun e w' => e = .returned (.int .i64 0)∧Below wk.heap.size wk w'))
  (HSw : Hid (∀ wk,Below W.heap.size W wk→Calls Tryz.prog 22 #[.agg #[.slice fa nf fc,.slice ca nc cc,.int .i64 st,.int .i64 wh]] wk fun e w' => ∃ ga gc ha mc hc,e = .returned (.agg #[.slice ga nf gc,.slice ha mc hc,.int .i64 st,.int .i64 wh])∧Hid (StaAt w' (.slice ga nf gc) (.slice ha mc hc) (sweptS S))∧mc ≤ nc∧Below wk.heap.size wk w'))
  (HTC : Hid (∀ ga gc ha mc hc w0,StaAt w0 (.slice ga nf gc) (.slice ha mc hc) (sweptS S)→Below W.heap.size W w0→Calls Tryz.prog 21 #[.slice pa np pc,.agg #[.slice ga nf gc,.slice ha mc hc,.int .i64 st,.int .i64 wh]] w0 fun e w' => e = .returned (.int .i64 0)∧Below w0.heap.size w0 w'))
  (HTS : Hid (∀ ga gc ha mc hc w0,StaAt w0 (.slice ga nf gc) (.slice ha mc hc) (sweptS S)→Calls Tryz.prog 22 #[.agg #[.slice ga nf gc,.slice ha mc hc,.int .i64 st,.int .i64 wh]] w0 fun e w' => ∃ ka kc la lc,e = .returned (.agg #[.slice ka nf kc,.slice la mc lc,.int .i64 st,.int .i64 wh])∧Hid (StaAt w' (.slice ka nf kc) (.slice la mc lc) (sweptS S))∧Below w0.heap.size w0 w'))
  (HTM : Hid (∀ ga gc ha mc hc ka kc la lc w0,StaAt w0 (.slice ga nf gc) (.slice ha mc hc) (sweptS S)→StaAt w0 (.slice ka nf kc) (.slice la mc lc) (sweptS S)→Calls Tryz.prog 19 #[.agg #[.slice ka nf kc,.slice la mc lc,.int .i64 st,.int .i64 wh],.agg #[.slice ga nf gc,.slice ha mc hc,.int .i64 st,.int .i64 wh]] w0 fun e w' => e = .returned (.bool true)∧Below w0.heap.size w0 w'))
  (HS : Hid (StaAt W (.slice fa nf fc) (.slice ca nc cc) S)) (HO : Hid (CodeOK np P∧StaOK np P S)) (HL : Hid (S.fs.length = nf∧S.cs.length = nc)) (hnf : nf ≤ 1000) :
  Calls Tryz.prog 7 #[.slice pa np pc,.agg #[.slice fa nf fc,.slice ca nc cc,.int .i64 st,.int .i64 wh]] w fun e w' => e = .returned (.bool true)∧Hid (Below w.heap.size w w'):=by
 go_enter Tryz.func7,Tryz.ntmps7
 go_upto_region 1 with (fail)
 rw [HW.out]
 go_upto_region 4 with (first
  | (go_at_call 22; refine (HSw.out _ hb2).mono ?_; rintro e w3 ⟨ga,gc,ha,mc,hc,rfl,HT,hmc,hb3'⟩; have HB3 : Hid (Below W.heap.size W w3):=below_step hb2 hb3'; clear hb3'; have hd : decide (nc < mc) = false:=by simp; omega)
  | (go_at_call 21; refine (HC.out _ hb1).mono ?_; rintro e w2 ⟨rfl,hb2'⟩; have hb2:=below_step hb1 hb2'; clear hb2'; obtain ⟨k0,k1,k2,k3⟩:=HX.out _ hb2)
  | (go_at_call 17; refine (HR.out _ (Below.refl _ _)).mono ?_; rintro e w1 ⟨rfl,hb1⟩; obtain ⟨j0,j1,j2,j3⟩:=HX.out _ hb1))
 clear hb1 hb2 j0 j1 j2 j3 k0 k1 k2 k3
 obtain ⟨W4,hW4⟩ : ∃ W4,w3.alloc (.cells #[.slice ga nf gc,.slice ha mc hc,.int .i64 st,.int .i64 wh] 26) = W4:=⟨_,rfl⟩
 have HW4 : Hid (w3.alloc (.cells #[.slice ga nf gc,.slice ha mc hc,.int .i64 st,.int .i64 wh] 26) = W4):=hW4
 have b4 : Below w3.heap.size w3 W4:=hW4 ▸ below_alloc w3 _
 have HB4 : Hid (Below W.heap.size W W4):=below_step HB3.out b4
 have HT4 : Hid (StaAt W4 (.slice ga nf gc) (.slice ha mc hc) (sweptS S)):=HT.out.below b4
 have HK : Hid (∀ wk,Below W4.heap.size W4 wk→wk.cell? ⟨w.heap.size,0,none⟩ = some (.slice fa nf fc)∧wk.cell? ⟨w.heap.size,1,none⟩ = some (.slice ca nc cc)∧wk.cell? ⟨w.heap.size,2,none⟩ = some (.int .i64 st)∧wk.cell? ⟨w.heap.size,3,none⟩ = some (.int .i64 wh) ∧
   wk.cell? ⟨w3.heap.size,0,none⟩ = some (.slice ga nf gc)∧wk.cell? ⟨w3.heap.size,1,none⟩ = some (.slice ha mc hc)∧wk.cell? ⟨w3.heap.size,2,none⟩ = some (.int .i64 st)∧wk.cell? ⟨w3.heap.size,3,none⟩ = some (.int .i64 wh)):=fun wk hk => by
  obtain ⟨k0,k1,k2,k3⟩:=HX.out _ (below_step HB4.out hk)
  exact ⟨k0,k1,k2,k3,below_at hk (by rw [← hW4,World.cell?_alloc_new]; rfl),below_at hk (by rw [← hW4,World.cell?_alloc_new]; rfl),below_at hk (by rw [← hW4,World.cell?_alloc_new]; rfl),below_at hk (by rw [← hW4,World.cell?_alloc_new]; rfl)⟩
 clear hW4 b4
 rw [HW4.out]
 go_region_held3 (fun w' => w'.cell? ⟨w.heap.size,0,none⟩ = some (.slice fa nf fc)∧w'.cell? ⟨w.heap.size,1,none⟩ = some (.slice ca nc cc)∧w'.cell? ⟨w.heap.size,2,none⟩ = some (.int .i64 st)∧w'.cell? ⟨w.heap.size,3,none⟩ = some (.int .i64 wh) ∧
   w'.cell? ⟨w3.heap.size,0,none⟩ = some (.slice ga nf gc)∧w'.cell? ⟨w3.heap.size,1,none⟩ = some (.slice ha mc hc)∧w'.cell? ⟨w3.heap.size,2,none⟩ = some (.int .i64 st)∧w'.cell? ⟨w3.heap.size,3,none⟩ = some (.int .i64 wh))
  (first | exact HK.out _ (Below.refl _ _).drew | exact HK.out _ hb7 | exact HK.out _ hb6 | exact HK.out _ hb5)
  (first
   | (go_at_call 19; refine (HTM.out ga gc ha mc hc ka kc la lc _ (HT4.out.below hb6) HT6.out).mono ?_; rintro e w7 ⟨rfl,hb7'⟩; have hb7:=below_step hb6 hb7'; clear hb7')
   | (go_at_call 22; refine (HTS.out ga gc ha mc hc _ (HT4.out.below hb5)).mono ?_; rintro e w6 ⟨ka,kc,la,lc,rfl,HT6,hb6'⟩; have hb6:=below_step hb5 hb6'; clear hb6')
   | (go_at_call 21; refine (HTC.out ga gc ha mc hc _ (HT4.out.below (Below.refl _ _).drew) (below_step HB4.out (Below.refl _ _).drew)).mono ?_; rintro e w5 ⟨rfl,hb5'⟩; have hb5:=below_step (Below.refl W4.heap.size W4).drew hb5'; clear hb5'))
 all_goals
  have HB7 : Hid (Below W.heap.size W w7):=below_step HB4.out hb7
  have HS7 : Hid (StaAt w7 (.slice fa nf fc) (.slice ca nc cc) S):=HS.out.below HB7.out
  have HT7 : Hid (StaAt w7 (.slice ga nf gc) (.slice ha mc hc) (sweptS S)):=HT4.out.below hb7
  have HK7 : Hid (∀ wk,Below w7.heap.size w7 wk→wk.cell? ⟨w.heap.size,0,none⟩ = some (.slice fa nf fc)∧wk.cell? ⟨w.heap.size,1,none⟩ = some (.slice ca nc cc)∧wk.cell? ⟨w3.heap.size,0,none⟩ = some (.slice ga nf gc)∧wk.cell? ⟨w3.heap.size,1,none⟩ = some (.slice ha mc hc)):=fun wk hk => by
   obtain ⟨k0,k1,_,_,k4,k5,_⟩:=HK.out _ (below_step hb7 hk)
   exact ⟨k0,k1,k4,k5⟩
  obtain ⟨k0,k1,k4,k5⟩:=HK7.out w7 (Below.refl _ _)
  clear hb5 hb6 hb7 HT6 hd hmc
  go_upto_region 7 with (fail)
  clear k0 k1 k4 k5
  go_loopw [69] (fun kv wr => ∃ i,i ≤ nf∧kv = .int .i64 (i : Nat)∧Hid (Below w7.heap.size w7 wr)) (fun kv _ => nf - (intOf kv).toNat)
  case atStart => exact ⟨0,Nat.zero_le _,rfl,Below.refl _ _⟩
  case round =>
   obtain ⟨i,hi,rfl,HBr⟩:=hrel
   by_cases hlt : i < nf
   ·obtain ⟨a1,c1,e1,_,hfc⟩:=HS7.out.1
    obtain ⟨rfl,-,rfl⟩:=Value.slice.inj e1
    rcases hfc with h0 | ⟨fb,fo,rfl,_,hfc⟩
    ·have:=HL.out.1; omega
    obtain ⟨a2,c2,e2,_,hgc⟩:=HT7.out.1
    obtain ⟨rfl,-,rfl⟩:=Value.slice.inj e2
    rcases hgc with h0 | ⟨gb,go',rfl,_,hgc⟩
    ·rw [swept_fs] at h0; have:=HL.out.1; omega
    obtain ⟨hc1,ok⟩:=HO.out
    have hiS : i < S.fs.length:=by rw [HL.out.1]; exact hlt
    obtain ⟨u,f0,f1,f2,f3,hu⟩:=hfc i hiS
    obtain ⟨v,g0,g1,g2,g3,hv⟩:=hgc i (by rw [swept_fs]; exact hiS)
    have hfr:=swept_frame hiS
    have er : (fmAt (sweptS S).fs i).regs.length = (fmAt S.fs i).regs.length:=by rw [hfr]; simp [renumF]
    rw [show (fmAt (sweptS S).fs i).proc = (fmAt S.fs i).proc by rw [hfr]; rfl] at g0
    rw [show (fmAt (sweptS S).fs i).pos = (fmAt S.fs i).pos by rw [hfr]; rfl] at g1
    rw [show (fmAt (sweptS S).fs i).to = (fmAt S.fs i).to by rw [hfr]; rfl] at g3
    have hreg:=fun j (hj : j < (fmAt S.fs i).regs.length) => swept_reg hc1 ok hiS hj
    have HU : Hid (RowAt w7 u (fmAt S.fs i).regs):=hu
    have HV : Hid (RowAt w7 v (fmAt (sweptS S).fs i).regs):=hv
    obtain ⟨n,hn⟩ : ∃ n,(fmAt S.fs i).regs.length = n:=⟨_,rfl⟩
    obtain ⟨ua,uc,rfl,hun,_⟩:=id hu
    obtain ⟨va,vc,rfl,_⟩:=id hv
    rw [er] at g2 HV
    rw [hn] at f2 g2 hreg HU HV hun
    have HReg:=(show Hid _ from hreg)
    have hn40 : n ≤ 1000:=by
     have hf:=ok.frames i hiS
     have h1:=hf.len
     have h2:=hf.p1
     have h3:=hf.p0
     have h4:=hc1.r1 (fmAt S.fs i).proc.toNat (by omega)
     rw [hn] at h1
     omega
    have HN : Hid ((fmAt S.fs i).regs.length = n∧(fmAt (sweptS S).fs i).regs.length = n):=⟨hn,er.trans hn⟩
    generalize hp1 : (fmAt S.fs i).proc = p1 at f0 g0
    generalize hp2 : (fmAt S.fs i).pos = p2 at f1 g1
    generalize hp3 : (fmAt S.fs i).to = p3 at f3 g3
    replace f0:=below_at HBr.out f0
    replace f1:=below_at HBr.out f1
    replace f2:=below_at HBr.out f2
    replace f3:=below_at HBr.out f3
    obtain ⟨k0,k1,k4,k5⟩:=HK7.out wr HBr.out
    clear hfc hgc hu hv hreg hfr er hn hp1 hp2 hp3 e1 e2 hc1 ok hiS
    go_upto_region 9 with (fail)
    obtain ⟨W8,hW8⟩ : ∃ W8,wr.alloc (.cells #[.int .i64 p1,.int .i64 p2,.slice ua n uc,.int .i64 p3] 40) = W8:=⟨_,rfl⟩
    have HW8 : Hid (wr.alloc (.cells #[.int .i64 p1,.int .i64 p2,.slice ua n uc,.int .i64 p3] 40) = W8):=hW8
    have HB8 : Hid (Below wr.heap.size wr W8):=hW8 ▸ below_alloc wr _
    have hs8 : W8.heap.size = wr.heap.size + 1:=by rw [← hW8]; simp
    have x0 : W8.cell? ⟨wr.heap.size,0,none⟩ = some (.int .i64 p1):=by rw [← hW8,World.cell?_alloc_new]; rfl
    have x1 : W8.cell? ⟨wr.heap.size,1,none⟩ = some (.int .i64 p2):=by rw [← hW8,World.cell?_alloc_new]; rfl
    have x2 : W8.cell? ⟨wr.heap.size,2,none⟩ = some (.slice ua n uc):=by rw [← hW8,World.cell?_alloc_new]; rfl
    have x3 : W8.cell? ⟨wr.heap.size,3,none⟩ = some (.int .i64 p3):=by rw [← hW8,World.cell?_alloc_new]; rfl
    clear hW8 f0 f1 f2 f3
    rw [HW8.out]
    replace k0:=below_at HB8.out k0
    replace k1:=below_at HB8.out k1
    replace k4:=below_at HB8.out k4
    replace k5:=below_at HB8.out k5
    replace g0:=below_at (below_step HBr.out HB8.out) g0
    replace g1:=below_at (below_step HBr.out HB8.out) g1
    replace g2:=below_at (below_step HBr.out HB8.out) g2
    replace g3:=below_at (below_step HBr.out HB8.out) g3
    go_upto_region 10 with (fail)
    obtain ⟨W9,hW9⟩ : ∃ W9,W8.alloc (.cells #[.int .i64 p1,.int .i64 p2,.slice va n vc,.int .i64 p3] 40) = W9:=⟨_,rfl⟩
    have HW9 : Hid (W8.alloc (.cells #[.int .i64 p1,.int .i64 p2,.slice va n vc,.int .i64 p3] 40) = W9):=hW9
    have b9 : Below W8.heap.size W8 W9:=hW9 ▸ below_alloc W8 _
    have HBw9 : Hid (Below w7.heap.size w7 W9):=below_step HBr.out (below_step HB8.out b9)
    replace x0:=below_at b9 x0
    replace x1:=below_at b9 x1
    replace x2:=below_at b9 x2
    replace x3:=below_at b9 x3
    have y0 : W9.cell? ⟨wr.heap.size + 1,0,none⟩ = some (.int .i64 p1):=by rw [← hW9,← hs8,World.cell?_alloc_new]; rfl
    have y1 : W9.cell? ⟨wr.heap.size + 1,1,none⟩ = some (.int .i64 p2):=by rw [← hW9,← hs8,World.cell?_alloc_new]; rfl
    have y2 : W9.cell? ⟨wr.heap.size + 1,2,none⟩ = some (.slice va n vc):=by rw [← hW9,← hs8,World.cell?_alloc_new]; rfl
    have y3 : W9.cell? ⟨wr.heap.size + 1,3,none⟩ = some (.int .i64 p3):=by rw [← hW9,← hs8,World.cell?_alloc_new]; rfl
    clear hW9 g0 g1 g2 g3 k0 k1 k4 k5 b9
    rw [HW9.out]
    have HK9 : Hid (∀ wk,Below W9.heap.size W9 wk→wk.cell? ⟨wr.heap.size,2,none⟩ = some (.slice ua n uc)∧wk.cell? ⟨wr.heap.size + 1,2,none⟩ = some (.slice va n vc)):=fun wk hk => ⟨below_at hk x2,below_at hk y2⟩
    go_upto_region 13 with (fail)
    clear x0 x1 x2 x3 y0 y1 y2 y3 hs8
    generalize wr = V8 at *
    go_loopw [110] (fun kv wr => ∃ k,k ≤ n∧kv = .int .i64 (k : Nat)∧Hid (Below W9.heap.size W9 wr)) (fun kv _ => n - (intOf kv).toNat)
    case atStart => exact ⟨0,Nat.zero_le _,rfl,Below.refl _ _⟩
    case round =>
     obtain ⟨k,hk,rfl,HBi⟩:=hrel
     by_cases hkn : k < n
     ·obtain ⟨r1,r2,r3⟩:=HReg.out k hkn
      obtain ⟨hN1,hN2⟩:=HN.out
      obtain ⟨a1,c1,e1,_,hrc⟩:=HU.out
      obtain ⟨rfl,-,rfl⟩:=Value.slice.inj e1
      rcases hrc with h0 | ⟨rb,ro,rfl,_,hrc⟩
      ·omega
      obtain ⟨a2,c2,e2,_,hsc⟩:=HV.out
      obtain ⟨rfl,-,rfl⟩:=Value.slice.inj e2
      rcases hsc with h0 | ⟨sb,so,rfl,_,hsc⟩
      ·omega
      obtain ⟨a0,a1⟩:=hrc k (by omega)
      obtain ⟨b0,b1⟩:=hsc k (by omega)
      rw [r1] at b0
      have HB7i : Hid (Below w7.heap.size w7 wr):=below_step HBw9.out HBi.out
      replace a0:=below_at HB7i.out a0
      replace a1:=below_at HB7i.out a1
      replace b0:=below_at HB7i.out b0
      replace b1:=below_at HB7i.out b1
      obtain ⟨k0,k1,k4,k5⟩:=HK7.out wr HB7i.out
      obtain ⟨k6,k7⟩:=HK9.out wr HBi.out
      have hk1 : k ≤ 1000:=by omega
      generalize hz1 : fstAt (fmAt S.fs i).regs k = kd at *
      generalize hz2 : sndAt (fmAt S.fs i).regs k = z1 at *
      generalize hz3 : sndAt (fmAt (sweptS S).fs i).regs k = z2 at *
      go_upto_region 15 with (fail)
      obtain ⟨W10,hW10⟩ : ∃ W10,wr.alloc (.cells #[.int .i64 kd,.int .i64 z1] 61) = W10:=⟨_,rfl⟩
      have HW10 : Hid (wr.alloc (.cells #[.int .i64 kd,.int .i64 z1] 61) = W10):=hW10
      have HB10 : Hid (Below wr.heap.size wr W10):=hW10 ▸ below_alloc wr _
      have hs10 : W10.heap.size = wr.heap.size + 1:=by rw [← hW10]; simp
      have x0 : W10.cell? ⟨wr.heap.size,0,none⟩ = some (.int .i64 kd):=by rw [← hW10,World.cell?_alloc_new]; rfl
      have x1 : W10.cell? ⟨wr.heap.size,1,none⟩ = some (.int .i64 z1):=by rw [← hW10,World.cell?_alloc_new]; rfl
      clear hW10 a0 a1
      rw [HW10.out]
      replace k1:=below_at HB10.out k1
      replace k5:=below_at HB10.out k5
      replace k7:=below_at HB10.out k7
      replace b0:=below_at HB10.out b0
      replace b1:=below_at HB10.out b1
      clear k0 k4 k6
      go_upto_region 16 with (fail)
      obtain ⟨W11,hW11⟩ : ∃ W11,W10.alloc (.cells #[.int .i64 kd,.int .i64 z2] 61) = W11:=⟨_,rfl⟩
      have HW11 : Hid (W10.alloc (.cells #[.int .i64 kd,.int .i64 z2] 61) = W11):=hW11
      have b11 : Below W10.heap.size W10 W11:=hW11 ▸ below_alloc W10 _
      have HB711 : Hid (Below w7.heap.size w7 W11):=below_step HB7i.out (below_step HB10.out b11)
      have HB911 : Hid (Below W9.heap.size W9 W11):=below_step HBi.out (below_step HB10.out b11)
      replace x0:=below_at b11 x0
      replace x1:=below_at b11 x1
      replace k1:=below_at b11 k1
      replace k5:=below_at b11 k5
      have y0 : W11.cell? ⟨wr.heap.size + 1,0,none⟩ = some (.int .i64 kd):=by rw [← hW11,← hs10,World.cell?_alloc_new]; rfl
      have y1 : W11.cell? ⟨wr.heap.size + 1,1,none⟩ = some (.int .i64 z2):=by rw [← hW11,← hs10,World.cell?_alloc_new]; rfl
      clear hW11 b0 b1 k7 b11
      rw [HW11.out]
      by_cases h2 : kd = 2
      ·obtain ⟨a,b,rfl,ha',rfl,hb',hcl⟩:=r3 h2
       subst h2
       obtain ⟨a3,c3,e3,_,hcc⟩:=HS7.out.2
       obtain ⟨rfl,-,rfl⟩:=Value.slice.inj e3
       rcases hcc with h0 | ⟨cb,co,rfl,_,hcc⟩
       ·omega
       obtain ⟨a4,c4,e4,_,hdc⟩:=HT7.out.2
       obtain ⟨rfl,-,rfl⟩:=Value.slice.inj e4
       rcases hdc with h0 | ⟨db,do',rfl,_,hdc⟩
       ·omega
       obtain ⟨x,hx,xa,xc,rfl,_⟩:=hcc a ha'
       obtain ⟨y,hy,ya,yc,rfl,_⟩:=hdc b hb'
       rw [hcl] at hy
       injection e3 with _ e3 _
       injection e4 with _ e4 _
       rw [← e3] at ha'
       rw [← e4] at hb'
       replace hx:=below_at HB711.out hx
       replace hy:=below_at HB711.out hy
       have i1 : (0 : Int) ≤ (a : Int):=by omega
       have i2 : (a : Int) < (nc : Int):=by omega
       have i3 : (0 : Int) ≤ (b : Int):=by omega
       have i4 : (b : Int) < (mc : Int):=by omega
       generalize cLen S.cs a = cl at *
       clear r1 r2 r3 hrc hsc hcc hdc e3 e4 hz1 hz2 hz3 hN1 hN2 hcl
       go_quiet (fail)
       go_wp2
       go_roundw
       case rel => exact ⟨k + 1,by omega,by go_num,below_step HB911.out (below_drewN' _ _)⟩
       case measure => simp [intOf]; omega
      ·have hz : z2 = z1:=r2 h2
       subst hz
       clear r1 r2 r3 hrc hsc hz1 hz2 hz3 hN1 hN2
       have h2b : (kd == 2) = false:=by simp [h2]
       have h2c : (kd != 2) = true:=by simp [h2]
       go_quiet (fail)
       go_wp2
       go_roundw
       case rel => exact ⟨k + 1,by omega,by go_num,below_step HB911.out (below_drewN' _ _)⟩
       case measure => simp [intOf]; omega
     ·obtain rfl : k = n:=by omega
      go_wp2
      go_roundw
      case rel => exact ⟨i + 1,by omega,by go_num,below_step HBw9.out HBi.out⟩
      case measure => simp [intOf]; omega
   ·obtain rfl : i = nf:=by omega
    go_wp2
    go_ret
    exact ⟨rfl,below_step HB.out (below_step HB7.out HBr.out)⟩
end Go.Proofs.YtipnjoahobplhaaGreatDoor
