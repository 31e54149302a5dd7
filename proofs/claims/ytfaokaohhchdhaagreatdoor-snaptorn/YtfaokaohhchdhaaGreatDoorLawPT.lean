/- SnapTorn: without its last numbers, or with more, an image is none; images are alike just if the states are, swept: the statement's own walk. -/
import Derived.Test.YtfaokaohhchdhaaGreatDoorPart50
namespace Go.Proofs.YtfaokaohhchdhaaGreatDoor
open Go.RowKit Go.Maps
theorem two_sbox (w : World) (a b a' b' : Value) (c d c' d' : Int) : ∃ W,(w.alloc (.cells #[a,b,.int .i64 c,.int .i64 d] 26)).alloc (.cells #[a',b',.int .i64 c',.int .i64 d'] 26)=W∧Below w.heap.size w W ∧
  ∀ wk,Below W.heap.size W wk→(wk.cell? ⟨w.heap.size,0,none⟩=some a∧wk.cell? ⟨w.heap.size,1,none⟩=some b∧wk.cell? ⟨w.heap.size,2,none⟩=some (.int .i64 c)∧wk.cell? ⟨w.heap.size,3,none⟩=some (.int .i64 d))∧wk.cell? ⟨w.heap.size + 1,0,none⟩=some a'∧wk.cell? ⟨w.heap.size + 1,1,none⟩=some b'∧wk.cell? ⟨w.heap.size + 1,2,none⟩=some (.int .i64 c')∧wk.cell? ⟨w.heap.size + 1,3,none⟩=some (.int .i64 d'):=by
 obtain ⟨V,hV,b0,hs,i0,i1,i2,i3⟩:=sbox w a b c d
 rw [hV]
 obtain ⟨W,hW,b1,_,j0,j1,j2,j3⟩:=sbox V a' b' c' d'
 rw [hs] at j0 j1 j2 j3
 exact ⟨W,hW,below_step b0 b1,fun wk hk => ⟨⟨below_at (below_step b1 hk) i0,below_at (below_step b1 hk) i1,below_at (below_step b1 hk) i2,below_at (below_step b1 hk) i3⟩,below_at hk j0,below_at hk j1,below_at hk j2,below_at hk j3⟩⟩
theorem cloneI (w : World) (B g n c : Nat) (L : List Int) (h : NOwn B w (.slice (some ⟨g,0,none⟩) n c) L) (hn : L.length=n) (hl : n≤100000) :
  Calls Tryz.prog 36 #[.slice (some ⟨g,0,none⟩) n c] w fun e w' => ∃ a cc,e=.returned (.slice a n cc)∧Hid (NOwn w.heap.size w' (.slice a n cc) L)∧Hid (Below w.heap.size w w'):=by
 obtain ⟨a',cap,e,_,_,h3⟩:=h.numsIn (by omega)
 injection e with e1 e2 e3
 subst e1
 have hc : ∀ j,j < L.length→w.cell? ⟨g,0 + j,none⟩=some (.int .i64 (L.getD j 0)):=fun j hj => by
  rcases h3 with h3 | ⟨b,o,hb,_,hc⟩
  ·rw [h3] at hj; simp at hj
  ·cases hb
   exact hc j _ (by simp [hj])
 refine (Tryz.slices_Clone_int g 0 n c L w (by omega) (by omega) hc).mono ?_
 rintro e w' ⟨v',rfl,ho,_,hb⟩
 obtain ⟨a,cc,rfl⟩:=own_shape ho
 refine ⟨a,cc,rfl,?_,hb⟩
 rw [List.take_of_length_le (by omega)] at ho
 show World.ownsRow _ _ _ _ _ _ _
 rw [hn]
 exact ho
def ToldBad (w : World) (e : Ending) (w' : World) : Prop:=∃ a1 n1 c1 a2 n2 c2 z1 z2,e=.returned (.tuple #[.agg #[.slice a1 n1 c1,.slice a2 n2 c2,.int .i64 z1,.int .i64 z2],.int .i64 8])∧Hid (Below w.heap.size w w')
set_option maxRecDepth 20000 in
set_option maxHeartbeats 8000000 in
theorem pt_good (n k n2 : Nat) (nz mo er2 : Int) (b : Bool) (L L2 : List Int) (pa fa ca fb cb : Option Addr) (np0 pc nf fc nc cc nfb fcb ncb ccb : Nat) (st wh stb whb : Int) (A B : Sta) (w W : World) (hL : L.length=n) (hn0 : 0 < n) (hn : n≤2000) (hk : k < n)
  (HW : Hid ((w.alloc (.cells #[.slice fa nf fc,.slice ca nc cc,.int .i64 st,.int .i64 wh] 26)).alloc (.cells #[.slice fb nfb fcb,.slice cb ncb ccb,.int .i64 stb,.int .i64 whb] 26)=W)) (HB : Hid (Below w.heap.size w W))
  (HX : Hid (∀ wk,Below W.heap.size W wk→(wk.cell? ⟨w.heap.size,0,none⟩=some (.slice fa nf fc)∧wk.cell? ⟨w.heap.size,1,none⟩=some (.slice ca nc cc)∧wk.cell? ⟨w.heap.size,2,none⟩=some (.int .i64 st)∧wk.cell? ⟨w.heap.size,3,none⟩=some (.int .i64 wh))∧wk.cell? ⟨w.heap.size + 1,0,none⟩=some (.slice fb nfb fcb)∧wk.cell? ⟨w.heap.size + 1,1,none⟩=some (.slice cb ncb ccb)∧wk.cell? ⟨w.heap.size + 1,2,none⟩=some (.int .i64 stb)∧wk.cell? ⟨w.heap.size + 1,3,none⟩=some (.int .i64 whb)))
  (HR : Hid (TrueC 33 W))
  (HP1 : Hid (Calls Tryz.prog 31 #[.slice pa np0 pc,.agg #[.slice fa nf fc,.slice ca nc cc,.int .i64 st,.int .i64 wh]] W fun e w' => ∃ g lc,e=.returned (.tuple #[.slice (some ⟨g,0,none⟩) n lc,.int .i64 0])∧Hid (NOwn W.heap.size w' (.slice (some ⟨g,0,none⟩) n lc) L)∧Hid (Below W.heap.size W w')))
  (HAt : Hid (∀ wk,Calls Tryz.prog 25 #[.int .i64 nz,.int .i64 n] wk fun e w' => e=.returned (.int .i64 (k : Int))∧w'=wk))
  (HU1 : Hid (∀ g lc wk,NOwn W.heap.size wk (.slice (some ⟨g,0,none⟩) n lc) L→Below W.heap.size W wk→Calls Tryz.prog 32 #[.slice pa np0 pc,.slice (some ⟨g,0,none⟩) k lc] wk (ToldBad wk)))
  (HCl : Hid (∀ g lc wk,NOwn W.heap.size wk (.slice (some ⟨g,0,none⟩) n lc) L→Calls Tryz.prog 36 #[.slice (some ⟨g,0,none⟩) n lc] wk fun e w' => ∃ a cc,e=.returned (.slice a n cc)∧Hid (NOwn wk.heap.size w' (.slice a n cc) L)∧Hid (Below wk.heap.size wk w')))
  (HU2 : Hid (∀ a lc wk (D : Nat),NOwn D wk (.slice a (n + 1) lc) (L ++ [mo])→Below W.heap.size W wk→Calls Tryz.prog 32 #[.slice pa np0 pc,.slice a (n + 1 : Nat) lc] wk (ToldBad wk)))
  (HP2 : Hid (∀ wk,Below W.heap.size W wk→Calls Tryz.prog 31 #[.slice pa np0 pc,.agg #[.slice fb nfb fcb,.slice cb ncb ccb,.int .i64 stb,.int .i64 whb]] wk fun e w' => ∃ ga lc,e=.returned (.tuple #[.slice ga n2 lc,.int .i64 er2])∧Hid (er2=0→NOwn wk.heap.size w' (.slice ga n2 lc) L2)∧Hid (Below wk.heap.size wk w')))
  (HSA : Hid (er2=0→∀ wk,Below W.heap.size W wk→Calls Tryz.prog 21 #[.agg #[.slice fa nf fc,.slice ca nc cc,.int .i64 st,.int .i64 wh]] wk fun e w' => ∃ fa fc ca cc,e=.returned (.agg #[.slice fa A.fs.length fc,.slice ca A.cs.length cc,.int .i64 A.st,.int .i64 A.wh])∧Hid (StaAt w' (.slice fa A.fs.length fc) (.slice ca A.cs.length cc) A)∧Hid (Below wk.heap.size wk w')))
  (HSB : Hid (er2=0→∀ wk,Below W.heap.size W wk→Calls Tryz.prog 21 #[.agg #[.slice fb nfb fcb,.slice cb ncb ccb,.int .i64 stb,.int .i64 whb]] wk fun e w' => ∃ fa fc ca cc,e=.returned (.agg #[.slice fa B.fs.length fc,.slice ca B.cs.length cc,.int .i64 B.st,.int .i64 B.wh])∧Hid (StaAt w' (.slice fa B.fs.length fc) (.slice ca B.cs.length cc) B)∧Hid (Below wk.heap.size wk w')))
  (HSM : Hid (er2=0→∀ fa fc ca cc ga gc ha hc wk,StaAt wk (.slice fa A.fs.length fc) (.slice ca A.cs.length cc) A→StaAt wk (.slice ga B.fs.length gc) (.slice ha B.cs.length hc) B→Calls Tryz.prog 18 #[.agg #[.slice fa A.fs.length fc,.slice ca A.cs.length cc,.int .i64 A.st,.int .i64 A.wh],.agg #[.slice ga B.fs.length gc,.slice ha B.cs.length hc,.int .i64 B.st,.int .i64 B.wh]] wk fun e w' => e=.returned (.bool b)∧Below wk.heap.size wk w'))
  (HEQ : Hid (er2=0→∀ (D D2 : Nat) v1 v2 wk,NOwn D wk v1 L→NOwn D2 wk v2 L2→Calls Tryz.prog 24 #[v1,v2] wk fun e w' => e=.returned (.bool b)∧Below wk.heap.size wk w')) :
  Calls Tryz.prog 10 #[.slice pa np0 pc,.agg #[.slice fa nf fc,.slice ca nc cc,.int .i64 st,.int .i64 wh],.agg #[.slice fb nfb fcb,.slice cb ncb ccb,.int .i64 stb,.int .i64 whb],.int .i64 nz,.int .i64 mo] w fun e w' => e=.returned (.bool true)∧Hid (Below w.heap.size w w'):=by
 have HLn : Hid (L.length=n):=hL
 clear hL
 go_enter Tryz.func10,Tryz.ntmps10
 go_upto_region 1 with (fail)
 try rw [HW.out]
 obtain ⟨⟨k0,k1,k2,k3⟩,l0,l1,l2,l3⟩:=HX.out W (Below.refl _ _)
 go_upto_region 2 with (go_at_call 31; refine HP1.out.mono ?_; rintro e w1 ⟨g,lc,rfl,HN1,HB1⟩)
 have hct:=own_cut HN1.out
 have hsl:=slice_toP (some ⟨g,0,none⟩) n lc k (by omega) hct.2.1 (fun h => by cases h)
 clear hct k0 k1 k2 k3 l0 l1 l2 l3
 go_upto_region 4 with (go_at_call 33; refine (HR.out _ HB1.out).mono ?_; rintro e w2 ⟨rfl,hb2⟩)
 have HB2 : Hid (Below W.heap.size W w2):=below_step HB1.out hb2
 have HN2 : Hid (NOwn W.heap.size w2 (.slice (some ⟨g,0,none⟩) n lc) L):=HN1.out.below hb2
 clear hb2
 go_upto_region 5 with (first
  | (go_at_call 25; refine (HAt.out _).mono ?_; rintro e w3 ⟨rfl,hw3⟩; rw [hw3]; clear hw3)
  | (go_at_call 32; refine (HU1.out _ _ _ HN2.out HB2.out).mono ?_; rintro e w4 ⟨a1,n1,c1,a2,n2',c2,z1,z2,rfl,HB4⟩))
 obtain ⟨W4,hW4⟩ : ∃ W4,w4.alloc (.cells #[.slice a1 n1 c1,.slice a2 n2' c2,.int .i64 z1,.int .i64 z2] 26)=W4:=⟨_,rfl⟩
 try rw [hW4]
 have HB5 : Hid (Below w2.heap.size w2 W4):=below_step HB4.out (hW4 ▸ below_alloc w4 _)
 have HN4 : Hid (NOwn W.heap.size W4 (.slice (some ⟨g,0,none⟩) n lc) L):=HN2.out.below HB5.out
 have HBW4 : Hid (Below W.heap.size W W4):=below_step HB2.out HB5.out
 clear hW4 hsl HB4
 go_upto_region 7 with (fail)
 go_upto_region 8 with (first
  | (go_at_call 36; refine (HCl.out _ _ _ HN4.out).mono ?_; rintro e w5 ⟨ka,kc,rfl,HN5,HB6⟩; have hnk : L.length + 1≤100000000:=(by have:=HLn.out; omega))
  | (at_builtin; go_loud (refine sn_append w5 rfl _ _ rfl W4.heap.size (.slice ka n kc) L [mo] rfl HN5.out _ _ 1 _ rfl rfl (by omega) rfl rfl hnk HB6.out.size ?_; rw [HLn.out]; intro ad cap w6 HN6 HB7))
  | (go_at_call 32; refine (HU2.out _ _ _ _ HN6.out (below_step HBW4.out ((HB6.out).trans HB7.out.1))).mono ?_; rintro e w7 ⟨a1,n1,c1,a2,n2',c2,z1,z2,rfl,HB8⟩))
 obtain ⟨W8,hW8⟩ : ∃ W8,w7.alloc (.cells #[.slice a1 n1 c1,.slice a2 n2' c2,.int .i64 z1,.int .i64 z2] 26)=W8:=⟨_,rfl⟩
 try rw [hW8]
 have HB48 : Hid (Below W4.heap.size W4 W8):=(HB6.out.trans HB7.out.1).trans ((below_step HB8.out (hW8 ▸ below_alloc w7 _)).mono (HB6.out.trans HB7.out.1).size)
 have HN8 : Hid (NOwn W.heap.size W8 (.slice (some ⟨g,0,none⟩) n lc) L):=HN4.out.below HB48.out
 have HBW8 : Hid (Below W.heap.size W W8):=below_step HBW4.out HB48.out
 clear hW8 HN5 HB6 HN6 HB7 HB8 hnk
 obtain ⟨_,l0,l1,l2,l3⟩:=HX.out W8 HBW8.out
 go_upto_region 10 with (fail)
 go_upto_region 11 with (go_at_call 31; refine (HP2.out _ HBW8.out).mono ?_; rintro e w9 ⟨ga,lc2,rfl,HM9,HB9⟩)
 have HBW9 : Hid (Below W.heap.size W w9):=below_step HBW8.out HB9.out
 have HN9 : Hid (NOwn W.heap.size w9 (.slice (some ⟨g,0,none⟩) n lc) L):=HN8.out.below HB9.out
 clear l0 l1 l2 l3
 by_cases he : er2=0
 ·have HE1 : Hid (∀ wk,Below w9.heap.size w9 wk→Calls Tryz.prog 24 #[.slice (some ⟨g,0,none⟩) n lc,.slice ga n2 lc2] wk fun e w' => e=.returned (.bool b)∧Below wk.heap.size wk w'):=fun wk hk => HEQ.out he _ _ _ _ wk (HN9.out.below hk) ((HM9.out he).below hk)
  have HSA1:=(show Hid _ from HSA.out he)
  have HSB1:=(show Hid _ from HSB.out he)
  have HSM1:=(show Hid _ from HSM.out he)
  subst he
  have hbb : (b == b)=true:=by simp
  have HX9 : Hid (∀ wk,Below w9.heap.size w9 wk→(wk.cell? ⟨w.heap.size,0,none⟩=some (.slice fa nf fc)∧wk.cell? ⟨w.heap.size,1,none⟩=some (.slice ca nc cc)∧wk.cell? ⟨w.heap.size,2,none⟩=some (.int .i64 st)∧wk.cell? ⟨w.heap.size,3,none⟩=some (.int .i64 wh))∧wk.cell? ⟨w.heap.size + 1,0,none⟩=some (.slice fb nfb fcb)∧wk.cell? ⟨w.heap.size + 1,1,none⟩=some (.slice cb ncb ccb)∧wk.cell? ⟨w.heap.size + 1,2,none⟩=some (.int .i64 stb)∧wk.cell? ⟨w.heap.size + 1,3,none⟩=some (.int .i64 whb)):=fun wk hk => HX.out wk (below_step HBW9.out hk)
  have HUp : Hid (∀ wk,Below w9.heap.size w9 wk→Below W.heap.size W wk):=fun wk hk => below_step HBW9.out hk
  obtain ⟨⟨k0,k1,k2,k3⟩,l0,l1,l2,l3⟩:=HX9.out w9 (Below.refl _ _)
  go_region_held3 (fun w' => (w'.cell? ⟨w.heap.size,0,none⟩=some (.slice fa nf fc)∧w'.cell? ⟨w.heap.size,1,none⟩=some (.slice ca nc cc)∧w'.cell? ⟨w.heap.size,2,none⟩=some (.int .i64 st)∧w'.cell? ⟨w.heap.size,3,none⟩=some (.int .i64 wh))∧w'.cell? ⟨w.heap.size + 1,0,none⟩=some (.slice fb nfb fcb)∧w'.cell? ⟨w.heap.size + 1,1,none⟩=some (.slice cb ncb ccb)∧w'.cell? ⟨w.heap.size + 1,2,none⟩=some (.int .i64 stb)∧w'.cell? ⟨w.heap.size + 1,3,none⟩=some (.int .i64 whb))
   (first | exact HX9.out _ (Below.refl _ _).drew | exact HX9.out _ hb13 | exact HX9.out _ hb12 | exact HX9.out _ hb11 | exact HX9.out _ hb10)
   (first
    | (go_at_call 18; refine (HSM1.out _ _ _ _ _ _ _ _ _ SA12 SB12.out).mono ?_; rintro e w13 ⟨rfl,hb13'⟩; have hb13:=below_step hb12 hb13'; clear hb13')
    | (go_at_call 21; refine (HSB1.out _ (HUp.out _ hb11)).mono ?_; rintro e w12 ⟨f2,g2,c2,d2,rfl,SB12,hb12'⟩; have SA12:=SA11.out.below hb12'.out; have hb12:=below_step hb11 hb12'.out; clear hb12')
    | (go_at_call 21; refine (HSA1.out _ (HUp.out _ hb10)).mono ?_; rintro e w11 ⟨f1,g1,c1,d1,rfl,SA11,hb11'⟩; have hb11:=below_step hb10 hb11'.out; clear hb11')
    | (go_at_call 24; refine (HE1.out _ (Below.refl _ _).drew).mono ?_; rintro e w10 ⟨rfl,hb10'⟩; have hb10:=below_step (Below.refl w9.heap.size w9).drew hb10'; clear hb10'))
  all_goals
   clear hb10 hb11 SA11 SA12 SB12 hb12
   go_wp2_with (fail)
   go_ret
   exact ⟨by simp,below_step HB.out (HUp.out _ hb13)⟩
 ·have heb : (er2 != 0)=true:=by simpa using he
  clear he
  go_quiet (fail)
  go_wp2_with (fail)
  go_ret
  exact ⟨rfl,below_step HB.out (below_step HBW9.out (below_drewN' _ _))⟩
set_option maxHeartbeats 4000000 in
theorem pt_bad (er : Int) (pa fa ca fb cb : Option Addr) (np0 pc nf fc nc cc nfb fcb ncb ccb : Nat) (st wh stb whb nz mo : Int) (w W : World) (he : (er != 0)=true)
  (HW : Hid ((w.alloc (.cells #[.slice fa nf fc,.slice ca nc cc,.int .i64 st,.int .i64 wh] 26)).alloc (.cells #[.slice fb nfb fcb,.slice cb ncb ccb,.int .i64 stb,.int .i64 whb] 26)=W)) (HB : Hid (Below w.heap.size w W))
  (HX : Hid (W.cell? ⟨w.heap.size,0,none⟩=some (.slice fa nf fc)∧W.cell? ⟨w.heap.size,1,none⟩=some (.slice ca nc cc)∧W.cell? ⟨w.heap.size,2,none⟩=some (.int .i64 st)∧W.cell? ⟨w.heap.size,3,none⟩=some (.int .i64 wh)))
  (HR : Hid (TrueC 33 W))
  (HP1 : Hid (Calls Tryz.prog 31 #[.slice pa np0 pc,.agg #[.slice fa nf fc,.slice ca nc cc,.int .i64 st,.int .i64 wh]] W fun e w' => e=.returned (.tuple #[.slice none 0 0,.int .i64 er])∧Hid (Below W.heap.size W w'))) :
  Calls Tryz.prog 10 #[.slice pa np0 pc,.agg #[.slice fa nf fc,.slice ca nc cc,.int .i64 st,.int .i64 wh],.agg #[.slice fb nfb fcb,.slice cb ncb ccb,.int .i64 stb,.int .i64 whb],.int .i64 nz,.int .i64 mo] w fun e w' => e=.returned (.bool true)∧Hid (Below w.heap.size w w'):=by
 go_enter Tryz.func10,Tryz.ntmps10
 go_upto_region 1 with (fail)
 try rw [HW.out]
 obtain ⟨k0,k1,k2,k3⟩:=HX.out
 go_upto_region 2 with (go_at_call 31; refine HP1.out.mono ?_; rintro e w1 ⟨rfl,HB1⟩)
 clear k0 k1 k2 k3
 go_wp2_with (first
  | (go_at_call 33; refine (HR.out _ hb2).mono ?_; rintro e w3 ⟨rfl,hb3'⟩; have hb3:=below_step hb2 hb3')
  | (go_at_call 33; refine (HR.out _ HB1.out).mono ?_; rintro e w2 ⟨rfl,hb2'⟩; have hb2:=below_step HB1.out hb2'; clear hb2'))
 go_ret
 exact ⟨rfl,below_step HB.out hb3⟩
theorem told {w : World} {T : Sta} {e : Ending} {w' : World} (h : UnpK w T 8 e w') : ToldBad w e w':=by
 obtain ⟨fa,fc,ca,cc,rfl,_,hb⟩:=h
 exact ⟨_,_,_,_,_,_,_,_,rfl,hb⟩
theorem snapTorn {np : Nat} {P : Nat→Pc} (M : Nat) (vp fv cv fv2 cv2 : Value) (S T : Sta) (nz mo : Int) (w : World) (hM : M≤w.heap.size) (hp : ProcsAt M w vp np P) (hs : StaAt w fv cv S) (ht : StaAt w fv2 cv2 T) (HR : TrueC 33 w) :
  Calls Tryz.prog 10 #[vp,staV fv cv S.st S.wh,staV fv2 cv2 T.st T.wh,.int .i64 nz,.int .i64 mo] w fun e w' => e=.returned (.bool true)∧Hid (Below w.heap.size w w'):=by
 obtain ⟨pa,pc,rfl,_⟩:=id hp
 obtain ⟨fa,fc,rfl,_⟩:=id hs.1
 obtain ⟨ca,cc,rfl,_⟩:=id hs.2
 obtain ⟨fb,fcb,rfl,_⟩:=id ht.1
 obtain ⟨cb,ccb,rfl,_⟩:=id ht.2
 obtain ⟨W,hW,b0,hX⟩:=two_sbox w (.slice fa S.fs.length fc) (.slice ca S.cs.length cc) (.slice fb T.fs.length fcb) (.slice cb T.cs.length ccb) S.st S.wh T.st T.wh
 have hpk : ∀ wk,Below W.heap.size W wk→ProcsAt M wk (.slice pa np pc) np P:=fun wk hk => hp.below ((below_step b0 hk).mono hM)
 have hMk : ∀ wk,Below W.heap.size W wk→M≤wk.heap.size:=fun wk hk => Nat.le_trans hM (below_step b0 hk).size
 by_cases hv : vmErr np P S=0
 ·obtain ⟨hc,ok,hce⟩:=vmErr_right hv
  have oks:=ok.swept hc
  have hz:=staZs_len (oks.small hc)
  have hpos : 0 < (staZs (sweptS S)).length:=by unfold staZs; simp
  obtain ⟨k,hk⟩ : ∃ k : Nat,nz % (((staZs (sweptS S)).length : Nat) : Int)=k:=⟨(nz % ((staZs (sweptS S)).length : Int)).toNat,by have:=Int.emod_nonneg nz (b:=((staZs (sweptS S)).length : Int)) (by omega); omega⟩
  have hkn : k < (staZs (sweptS S)).length:=by have:=Int.emod_lt_of_pos nz (b:=((staZs (sweptS S)).length : Int)) (by omega); omega
  have core : ∀ (n2 : Nat) (er2 : Int) (L2 : List Int) (B : Sta)
    (HP2 : ∀ wk,Below W.heap.size W wk→Calls Tryz.prog 31 #[.slice pa np pc,.agg #[.slice fb T.fs.length fcb,.slice cb T.cs.length ccb,.int .i64 T.st,.int .i64 T.wh]] wk fun e w' => ∃ ga lc,e=.returned (.tuple #[.slice ga n2 lc,.int .i64 er2])∧Hid (er2=0→NOwn wk.heap.size w' (.slice ga n2 lc) L2)∧Hid (Below wk.heap.size wk w'))
    (hB : er2=0→StaOK np P T∧B=sweptS T∧L2=staZs (sweptS T)),
    Calls Tryz.prog 10 #[.slice pa np pc,.agg #[.slice fa S.fs.length fc,.slice ca S.cs.length cc,.int .i64 S.st,.int .i64 S.wh],.agg #[.slice fb T.fs.length fcb,.slice cb T.cs.length ccb,.int .i64 T.st,.int .i64 T.wh],.int .i64 nz,.int .i64 mo] w fun e w' => e=.returned (.bool true)∧Hid (Below w.heap.size w w'):=by
   intro n2 er2 L2 B HP2 hB
   refine pt_good (staZs (sweptS S)).length k n2 nz mo er2 (eqSt (sweptS S) B) (staZs (sweptS S)) L2 pa fa ca fb cb np pc _ fc _ cc _ fcb _ ccb S.st S.wh T.st T.wh (sweptS S) B w W rfl hpos (by omega) hkn hW b0 hX (HR.up b0) ?_ (fun wk => ?_) (fun g lc wk h hb => ?_) (fun g lc wk h => ?_) (fun a lc wk D h hb => ?_) HP2 (fun _ wk hb => ?_) (fun he wk hb => ?_) (fun he fa fc ca cc ga gc ha hc' wk h1 h2 => ?_) (fun he D D2 v1 v2 wk h1 h2 => ?_)
   ·refine (packP M _ _ _ S W (hMk W (Below.refl _ _)) (hpk W (Below.refl _ _)) (hs.below b0) hv).mono ?_
    rintro e w' ⟨a,c,rfl,h1,h2⟩
    rcases id h1.out.2 with ⟨e,h0⟩ | ⟨g,cap,cur,e,_⟩
    ·omega
    ·injection e with e1 _ _
     subst e1
     exact ⟨g,c,rfl,h1,h2⟩
   ·refine (lawAt nz _ hpos (by omega) wk).mono ?_
    rintro e w' ⟨rfl,rfl⟩
    exact ⟨by rw [hk],rfl⟩
   ·have e8:=unp_less hc ok hkn
    have hln : ((staZs (sweptS S)).take k).length=k:=by rw [List.length_take]; omega
    have:=unpackC M (.slice pa np pc) (some ⟨g,0,none⟩) lc ((staZs (sweptS S)).take k) wk (hMk wk hb) (hpk wk hb) (fun _ => by rw [hln]; exact (h.numsIn (by omega)).take k (by omega))
    rw [hln,e8] at this
    exact this.mono fun e w' => told
   ·exact cloneI wk _ g _ lc _ h rfl (by omega)
   ·have e8:=unp_more hc ok mo
    have hln : (staZs (sweptS S) ++ [mo]).length=(staZs (sweptS S)).length + 1:=by simp
    have:=unpackC M (.slice pa np pc) a lc (staZs (sweptS S) ++ [mo]) wk (hMk wk hb) (hpk wk hb) (fun _ => by rw [hln]; exact h.numsIn (by omega))
    rw [hln,e8] at this
    exact this.mono fun e w' => told
   ·refine (sweepK S _ _ wk (hs.below (below_step b0 hb)) hc ok).mono ?_
    rintro e w' ⟨fa,fc,ca,cc,rfl,h1,h2⟩
    exact ⟨fa,fc,ca,cc,rfl,h1.out.at hc oks,h2⟩
   ·obtain ⟨okT,rfl,_⟩:=hB he
    refine (sweepK T _ _ wk (ht.below (below_step b0 hb)) hc okT).mono ?_
    rintro e w' ⟨fa,fc,ca,cc,rfl,h1,h2⟩
    exact ⟨fa,fc,ca,cc,rfl,h1.out.at hc (okT.swept hc),h2⟩
   ·exact vmSame (sweptS S) B _ _ _ _ wk h1 h2
   ·obtain ⟨okT,rfl,rfl⟩:=hB he
    have hzT:=staZs_len ((okT.swept hc).small hc)
    refine (eqNums _ _ _ _ _ _ _ wk (h1.nums (by omega)) (h2.nums (by omega))).mono ?_
    rintro e w' ⟨rfl,hb⟩
    refine ⟨?_,hb⟩
    rw [eqB_list]
    congr 2
    rw [Bool.eq_iff_iff,decide_eq_true_iff,eqSt_iff]
    exact same_image hc ok okT
  by_cases hvT : vmErr np P T=0
  ·obtain ⟨_,okT,_⟩:=vmErr_right hvT
   refine core (staZs (sweptS T)).length 0 (staZs (sweptS T)) (sweptS T) (fun wk hb => ?_) fun _ => ⟨okT,rfl,rfl⟩
   refine (packP M _ _ _ T wk (hMk wk hb) (hpk wk hb) (ht.below (below_step b0 hb)) hvT).mono ?_
   rintro e w' ⟨a,c,rfl,h1,h2⟩
   exact ⟨a,c,rfl,fun _ => h1.out,h2⟩
  ·refine core 0 (vmErr np P T) [] (sweptS S) (fun wk hb => ?_) fun h => absurd h hvT
   refine (packBad M _ _ _ T wk (hMk wk hb) (hpk wk hb) (ht.below (below_step b0 hb)) hvT).mono ?_
   rintro e w' ⟨rfl,h2⟩
   exact ⟨none,0,rfl,fun h => absurd h hvT,h2⟩
 ·exact pt_bad (vmErr np P S) pa _ _ _ _ np pc _ fc _ cc _ fcb _ ccb S.st S.wh T.st T.wh nz mo w W (by simpa using hv) hW b0 (hX W (Below.refl _ _)).1 (HR.up b0) (packBad M _ _ _ S W (hMk W (Below.refl _ _)) (hpk W (Below.refl _ _)) (hs.below b0) hv)
end Go.Proofs.YtfaokaohhchdhaaGreatDoor
