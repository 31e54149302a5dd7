/- SoloBegins: with more turns, and other fuel, the beginning stays: the statement's own walk. -/
import Derived.Test.YtfaokaohhchdhaaGreatDoorPart50
namespace Go.Proofs.YtfaokaohhchdhaaGreatDoor
open Go.RowKit Go.Maps
theorem NOwn.parts {B : Nat} {w : World} {a : Option Addr} {n c : Nat} {l : List Int} (h : NOwn B w (.slice a n c) l) : n = l.length∧((a = none∧c = 0∧l = []) ∨ ∃ g,a = some ⟨g,0,none⟩∧n ≤ c):=by
 have hn:=own_len h
 refine ⟨hn,?_⟩
 rcases h.2 with ⟨e,h0⟩ | ⟨g,cap,cur,e,_,_,h1,_⟩
 ·injection e with e1 e2 e3
  exact Or.inl ⟨e1,e3,List.eq_nil_of_length_eq_zero h0⟩
 ·injection e with e1 e2 e3
  exact Or.inr ⟨g,e1,by omega⟩
theorem NOwn.first {B : Nat} {w : World} {a : Option Addr} {n c : Nat} {l : List Int} (h : NOwn B w (.slice a n c) l) (hl : l.length ≤ 1000000) {m : Nat} (hm : m ≤ l.length) (c' : Nat) : NumsAt w.heap.size w (.slice a m c') m (lz (l.take m)):=by
 obtain ⟨a',cap,e,hn,h0⟩:=h.nums hl
 injection e with e1 e2 e3
 subst e1
 refine ⟨a,c',rfl,by omega,?_⟩
 by_cases h00 : m = 0
 ·exact Or.inl h00
 ·rcases h0 with h0 | ⟨b,o,e,hb,hc⟩
  ·omega
  ·refine Or.inr ⟨b,o,e,hb,fun i hi => ?_⟩
   rw [hc i (by omega)]
   unfold lz
   simp [List.getD,hi]
set_option maxHeartbeats 400000 in
theorem eqNumsQ (N : Nat) (v1 v2 : Value) (n1 n2 : Nat) (z1 z2 : Nat→Int) (w : World) (h1 : NumsAt N w v1 n1 z1) (h2 : NumsAt N w v2 n2 z2) :
  Calls Tryz.prog 24 #[v1,v2] w fun e w' => e = .returned (.bool (eqB n1 n2 z1 z2))∧∃ n,w' = w.drewN n:=by
 obtain ⟨a1,c1,rfl,b1,h1⟩:=h1
 obtain ⟨a2,c2,rfl,b2,h2⟩:=h2
 by_cases hn : n1 = n2
 ·subst hn
  have ht : ((n1 : Int) != (n1 : Int)) = false:=by simp
  go_enter Tryz.func24,Tryz.ntmps24
  go_wp2
  go_loopw [13] (fun i wr => ∃ k m : Nat,k ≤ n1∧i = .int .i64 k∧wr = w.drewN m∧Hid (∀ j,j < k→z1 j = z2 j)) (fun i _ => n1 - (intOf i).toNat)
  case atStart => exact ⟨0,0,Nat.zero_le _,rfl,rfl,fun j hj => absurd hj (Nat.not_lt_zero _)⟩
  case round =>
   obtain ⟨k,m,hk,rfl,rfl,hall⟩:=hrel
   by_cases hlt : k < n1
   ·rcases h1 with h1 | ⟨p1,o1,rfl,l1,g1⟩
    ·omega
    rcases h2 with h2 | ⟨p2,o2,rfl,l2,g2⟩
    ·omega
    have q1:=g1 k hlt
    have q2:=g2 k hlt
    clear g1 g2
    by_cases he : z1 k = z2 k
    ·have HE : Hid (z1 k = z2 k):=he
     have het : (z1 k != z2 k) = false:=by simp [he]
     clear he
     go_wp2
     go_quiet (fail)
     go_wp2
     go_roundw
     case rel => exact ⟨k + 1,m + nq,by omega,by go_num,by simp,upTo hall.out HE.out⟩
     case measure => simp [intOf]; omega
    ·have HE : Hid (eqB n1 n1 z1 z2 = false):=eqB_no hlt he
     have het : (z1 k != z2 k) = true:=by simp [he]
     clear he
     go_wp2
     go_quiet (fail)
     go_wp2
     go_ret
     exact ⟨ret_bool HE.out.symm,m + nq,by simp⟩
   ·go_wp2
    go_ret
    obtain rfl : k = n1:=by omega
    exact ⟨ret_bool (eqB_yes hall.out).symm,_,rfl⟩
 ·have ht : ((n1 : Int) != (n2 : Int)) = true:=by simp; omega
  have HN : Hid (eqB n1 n2 z1 z2 = false):=eqB_len hn
  clear hn
  go_enter Tryz.func24,Tryz.ntmps24
  go_wp2
  go_ret
  exact ⟨ret_bool HN.out.symm,0,rfl⟩
set_option maxRecDepth 20000 in
set_option maxHeartbeats 4000000 in
theorem sb_bad (pa : Option Addr) (np pc : Nat) (a b t m er : Int) (ra rb rt rm : Nat) (w : World)
  (HAt : Hid (∀ wk,(Calls Tryz.prog 25 #[.int .i64 a,.int .i64 100] wk fun e w' => e = .returned (.int .i64 (ra : Int))∧w' = wk)∧(Calls Tryz.prog 25 #[.int .i64 b,.int .i64 100] wk fun e w' => e = .returned (.int .i64 (rb : Int))∧w' = wk)∧(Calls Tryz.prog 25 #[.int .i64 t,.int .i64 20] wk fun e w' => e = .returned (.int .i64 (rt : Int))∧w' = wk)∧(Calls Tryz.prog 25 #[.int .i64 m,.int .i64 20] wk fun e w' => e = .returned (.int .i64 (rm : Int))∧w' = wk)))
  (ha : ra < 100) (hb : rb < 100) (ht : rt < 20) (hm : rm < 20) (HR : Hid (TrueC 29 w))
  (HS : Hid (∀ fu tu wk,Below w.heap.size w wk→Calls Tryz.prog 28 #[.slice pa np pc,.int .i64 fu,.int .i64 tu] wk fun e w' => e = .returned (.tuple #[.slice none 0 0,.agg #[.slice none 0 0,.slice none 0 0,.int .i64 0,.int .i64 0],.int .i64 er])∧Hid (Below wk.heap.size wk w')))
  (he : (er != 0) = true) :
  Calls Tryz.prog 7 #[.slice pa np pc,.int .i64 a,.int .i64 b,.int .i64 t,.int .i64 m] w fun e w' => e = .returned (.bool true)∧Hid (Below w.heap.size w w'):=by
 have hq : (er == er) = true:=by simp
 have HUp : Hid (∀ wi wj,Below w.heap.size w wi→Below wi.heap.size wi wj→Below w.heap.size w wj):=fun wi wj h k => below_step h k
 go_enter Tryz.func7,Tryz.ntmps7
 go_upto_region 2 with (first
  | (go_at_call 25; with_reducible refine (HAt.out _).1.mono ?_; rintro e w1 ⟨rfl,h1⟩; rw [h1]; clear h1)
  | (go_at_call 25; with_reducible refine (HAt.out _).2.1.mono ?_; rintro e w1 ⟨rfl,h1⟩; rw [h1]; clear h1)
  | (go_at_call 25; with_reducible refine (HAt.out _).2.2.1.mono ?_; rintro e w1 ⟨rfl,h1⟩; rw [h1]; clear h1)
  | (go_at_call 25; with_reducible refine (HAt.out _).2.2.2.mono ?_; rintro e w1 ⟨rfl,h1⟩; rw [h1]; clear h1))
 go_upto_region 3 with (go_at_call 28; refine (HS.out _ _ _ (Below.refl _ _)).mono ?_; rintro e w2 ⟨rfl,HB2⟩)
 obtain ⟨W2,hW2⟩ : ∃ W2,w2.alloc (.cells #[.slice none 0 0,.slice none 0 0,.int .i64 0,.int .i64 0] 26) = W2:=⟨_,rfl⟩
 rw [hW2]
 have b2 : Below w.heap.size w W2:=HUp.out _ _ HB2.out (hW2 ▸ below_alloc w2 _)
 clear hW2
 go_upto_region 4 with (go_at_call 28; refine (HS.out _ _ _ b2).mono ?_; rintro e w3 ⟨rfl,HB3⟩)
 obtain ⟨W3,hW3⟩ : ∃ W3,w3.alloc (.cells #[.slice none 0 0,.slice none 0 0,.int .i64 0,.int .i64 0] 26) = W3:=⟨_,rfl⟩
 rw [hW3]
 have b3 : Below w.heap.size w W3:=HUp.out _ _ (HUp.out _ _ b2 HB3.out) (hW3 ▸ below_alloc w3 _)
 clear hW3
 go_upto_region 5 with (go_at_call 28; refine (HS.out _ _ _ b3).mono ?_; rintro e w4 ⟨rfl,HB4⟩)
 obtain ⟨W4,hW4⟩ : ∃ W4,w4.alloc (.cells #[.slice none 0 0,.slice none 0 0,.int .i64 0,.int .i64 0] 26) = W4:=⟨_,rfl⟩
 rw [hW4]
 have b4 : Below w.heap.size w W4:=HUp.out _ _ (HUp.out _ _ b3 HB4.out) (hW4 ▸ below_alloc w4 _)
 clear hW4
 go_wp2_with (first
  | (go_at_call 29; refine (HR.out _ b5).mono ?_; rintro e w6 ⟨rfl,hb6⟩)
  | (go_at_call 29; refine (HR.out _ b4).mono ?_; rintro e w5 ⟨rfl,hb5⟩; have b5:=HUp.out _ _ b4 hb5))
 go_ret
 exact ⟨rfl,HUp.out _ _ b5 hb6⟩
set_option maxRecDepth 20000 in
set_option maxHeartbeats 8000000 in
theorem sb_good (pa : Option Addr) (np pc : Nat) (a b t m : Int) (ra rb rt rm : Nat) (X Y Z : List Int) (stx sty stz whx why whz : Int) (nx ny nz mx my mz : Nat) (ov : Bool) (w : World)
  (HAt : Hid (∀ wk,(Calls Tryz.prog 25 #[.int .i64 a,.int .i64 100] wk fun e w' => e = .returned (.int .i64 (ra : Int))∧w' = wk)∧(Calls Tryz.prog 25 #[.int .i64 b,.int .i64 100] wk fun e w' => e = .returned (.int .i64 (rb : Int))∧w' = wk)∧(Calls Tryz.prog 25 #[.int .i64 t,.int .i64 20] wk fun e w' => e = .returned (.int .i64 (rt : Int))∧w' = wk)∧(Calls Tryz.prog 25 #[.int .i64 m,.int .i64 20] wk fun e w' => e = .returned (.int .i64 (rm : Int))∧w' = wk)))
  (ha : ra < 100) (hb : rb < 100) (ht : rt < 20) (hm : rm < 20) (HR : Hid (TrueC 29 w))
  (HSx : Hid (∀ wk,Below w.heap.size w wk→Calls Tryz.prog 28 #[.slice pa np pc,.int .i64 (1 + (ra : Int)),.int .i64 (rt : Int)] wk fun e w' => ∃ sa sc fa fc ca cc,e = .returned (.tuple #[.slice sa X.length sc,.agg #[.slice fa nx fc,.slice ca mx cc,.int .i64 stx,.int .i64 whx],.int .i64 0])∧Hid (NOwn wk.heap.size w' (.slice sa X.length sc) X)∧Hid (Below wk.heap.size wk w')))
  (HSy : Hid (∀ wk,Below w.heap.size w wk→Calls Tryz.prog 28 #[.slice pa np pc,.int .i64 (1 + (ra : Int)),.int .i64 ((rt : Int) + (rm : Int))] wk fun e w' => ∃ sa sc fa fc ca cc,e = .returned (.tuple #[.slice sa Y.length sc,.agg #[.slice fa ny fc,.slice ca my cc,.int .i64 sty,.int .i64 why],.int .i64 0])∧Hid (NOwn wk.heap.size w' (.slice sa Y.length sc) Y)∧Hid (Below wk.heap.size wk w')))
  (HSz : Hid (∀ wk,Below w.heap.size w wk→Calls Tryz.prog 28 #[.slice pa np pc,.int .i64 (1 + (rb : Int)),.int .i64 (rt : Int)] wk fun e w' => ∃ sa sc fa fc ca cc,e = .returned (.tuple #[.slice sa Z.length sc,.agg #[.slice fa nz fc,.slice ca mz cc,.int .i64 stz,.int .i64 whz],.int .i64 0])∧Hid (NOwn wk.heap.size w' (.slice sa Z.length sc) Z)∧Hid (Below wk.heap.size wk w')))
  (hXl : X.length ≤ 4800) (hYl : Y.length ≤ 4800) (hZl : Z.length ≤ 4800) (hXY : X.length ≤ Y.length) (HXY : Hid (Y.take X.length = X)) (h1 : stx = 1→sty = 1) (h2 : stx = 2→sty = 2)
  (HXZ : Hid (X.take (min X.length Z.length) = Z.take (min X.length Z.length)))
  (hov : ov = true ↔ ¬ stx = 0∧¬ stx = 3∧¬ stz = 0∧¬ stz = 3) (hov2 : ov = true→stx = stz∧X.length = Z.length) :
  Calls Tryz.prog 7 #[.slice pa np pc,.int .i64 a,.int .i64 b,.int .i64 t,.int .i64 m] w fun e w' => e = .returned (.bool true)∧Hid (Below w.heap.size w w'):=by
 have HUp : Hid (∀ wi wj,Below w.heap.size w wi→Below wi.heap.size wi wj→Below w.heap.size w wj):=fun wi wj h k => below_step h k
 have HOv : Hid (ov = true ↔ ¬ stx = 0∧¬ stx = 3∧¬ stz = 0∧¬ stz = 3):=hov
 have HOv2 : Hid (ov = true→stx = stz∧X.length = Z.length):=hov2
 have H12 : Hid ((stx = 1→sty = 1)∧(stx = 2→sty = 2)):=⟨h1,h2⟩
 obtain ⟨lx,hlx⟩ : ∃ lx,X.length = lx:=⟨_,rfl⟩
 obtain ⟨ly,hly⟩ : ∃ ly,Y.length = ly:=⟨_,rfl⟩
 obtain ⟨lz',hlz⟩ : ∃ l,Z.length = l:=⟨_,rfl⟩
 have HLn : Hid (X.length = lx∧Y.length = ly∧Z.length = lz'):=⟨hlx,hly,hlz⟩
 rw [hlx] at HSx hXl hXY HXY HXZ HOv2
 rw [hly] at HSy hYl hXY
 rw [hlz] at HSz hZl HXZ HOv2
 clear hov hov2 h1 h2 hlx hly hlz
 have hxy : ¬ (ly : Int) < (lx : Int):=by omega
 go_enter Tryz.func7,Tryz.ntmps7
 go_upto_region 2 with (first
  | (go_at_call 25; with_reducible refine (HAt.out _).1.mono ?_; rintro e w1 ⟨rfl,h1⟩; rw [h1]; clear h1)
  | (go_at_call 25; with_reducible refine (HAt.out _).2.1.mono ?_; rintro e w1 ⟨rfl,h1⟩; rw [h1]; clear h1)
  | (go_at_call 25; with_reducible refine (HAt.out _).2.2.1.mono ?_; rintro e w1 ⟨rfl,h1⟩; rw [h1]; clear h1)
  | (go_at_call 25; with_reducible refine (HAt.out _).2.2.2.mono ?_; rintro e w1 ⟨rfl,h1⟩; rw [h1]; clear h1))
 go_upto_region 3 with (go_at_call 28; refine (HSx.out _ (Below.refl _ _)).mono ?_; rintro e w2 ⟨xa,xc,fa2,fc2,ca2,cc2,rfl,NX2,HB2⟩)
 obtain ⟨W2,hW2⟩ : ∃ W2,w2.alloc (.cells #[.slice fa2 nx fc2,.slice ca2 mx cc2,.int .i64 stx,.int .i64 whx] 26) = W2:=⟨_,rfl⟩
 rw [hW2]
 have c2 : Below w2.heap.size w2 W2:=hW2 ▸ below_alloc w2 _
 have b2 : Below w.heap.size w W2:=HUp.out _ _ HB2.out c2
 have s2 : W2.cell? ⟨w2.heap.size,2,none⟩ = some (.int .i64 stx):=by rw [← hW2,World.cell?_alloc_new]; rfl
 have NX : Hid (NOwn w.heap.size W2 (.slice xa lx xc) X):=by have:=NX2.out.below c2; exact this
 clear hW2 c2 NX2
 go_upto_region 4 with (go_at_call 28; refine (HSy.out _ b2).mono ?_; rintro e w3 ⟨ya,yc,fa3,fc3,ca3,cc3,rfl,NY3,HB3⟩)
 obtain ⟨W3,hW3⟩ : ∃ W3,w3.alloc (.cells #[.slice fa3 ny fc3,.slice ca3 my cc3,.int .i64 sty,.int .i64 why] 26) = W3:=⟨_,rfl⟩
 rw [hW3]
 have c3 : Below w3.heap.size w3 W3:=hW3 ▸ below_alloc w3 _
 have d3 : Below W2.heap.size W2 W3:=below_step HB3.out c3
 have b3 : Below w.heap.size w W3:=HUp.out _ _ b2 d3
 replace s2:=below_at d3 s2
 have s3 : W3.cell? ⟨w3.heap.size,2,none⟩ = some (.int .i64 sty):=by rw [← hW3,World.cell?_alloc_new]; rfl
 replace NX : Hid (NOwn w.heap.size W3 (.slice xa lx xc) X):=NX.out.below d3
 have NY : Hid (NOwn W2.heap.size W3 (.slice ya ly yc) Y):=by have:=NY3.out.below c3; exact this
 clear hW3 c3 d3 NY3
 go_upto_region 5 with (go_at_call 28; refine (HSz.out _ b3).mono ?_; rintro e w4 ⟨za,zc,fa4,fc4,ca4,cc4,rfl,NZ4,HB4⟩)
 obtain ⟨W4,hW4⟩ : ∃ W4,w4.alloc (.cells #[.slice fa4 nz fc4,.slice ca4 mz cc4,.int .i64 stz,.int .i64 whz] 26) = W4:=⟨_,rfl⟩
 rw [hW4]
 have c4 : Below w4.heap.size w4 W4:=hW4 ▸ below_alloc w4 _
 have d4 : Below W3.heap.size W3 W4:=below_step HB4.out c4
 have b4 : Below w.heap.size w W4:=HUp.out _ _ b3 d4
 replace s2:=below_at d4 s2
 replace s3:=below_at d4 s3
 have s4 : W4.cell? ⟨w4.heap.size,2,none⟩ = some (.int .i64 stz):=by rw [← hW4,World.cell?_alloc_new]; rfl
 replace NX : Hid (NOwn w.heap.size W4 (.slice xa lx xc) X):=NX.out.below d4
 replace NY : Hid (NOwn W2.heap.size W4 (.slice ya ly yc) Y):=NY.out.below d4
 have NZ : Hid (NOwn W3.heap.size W4 (.slice za lz' zc) Z):=by have:=NZ4.out.below c4; exact this
 have HC4 : Hid (∀ wk,Below W4.heap.size W4 wk→(wk.cell? ⟨w2.heap.size,2,none⟩ = some (.int .i64 stx)∧wk.cell? ⟨w3.heap.size,2,none⟩ = some (.int .i64 sty)∧wk.cell? ⟨w4.heap.size,2,none⟩ = some (.int .i64 stz))∧NOwn w.heap.size wk (.slice xa lx xc) X∧NOwn W2.heap.size wk (.slice ya ly yc) Y∧NOwn W3.heap.size wk (.slice za lz' zc) Z∧Below w.heap.size w wk):=fun wk hk => ⟨⟨below_at hk s2,below_at hk s3,below_at hk s4⟩,NX.out.below hk,NY.out.below hk,NZ.out.below hk,HUp.out _ _ b4 hk⟩
 clear hW4 c4 d4 NZ4 s2 s3 s4 NX NY NZ
 go_upto_region 7 with (go_at_call 29; refine (HR.out _ b4).mono ?_; rintro e w5 ⟨rfl,hb5⟩)
 obtain ⟨⟨s2,s3,s4⟩,NX,NY,NZ,b5⟩:=HC4.out w5 hb5
 obtain ⟨-,hy⟩:=NY.parts
 obtain ⟨-,hx⟩:=NX.parts
 obtain ⟨-,hz⟩:=NZ.parts
 have HNN : Hid (NOwn w.heap.size w5 (.slice xa lx xc) X∧NOwn W2.heap.size w5 (.slice ya ly yc) Y∧NOwn W3.heap.size w5 (.slice za lz' zc) Z):=⟨NX,NY,NZ⟩
 have HH:=(show Hid _ from hb5)
 clear NX NY NZ hb5
 have HE7 : Hid (∀ v2,NumsAt w5.heap.size w5 v2 lx (lz (Y.take lx))→Calls Tryz.prog 24 #[.slice xa lx xc,v2] w5 fun e w' => e = .returned (.bool true)∧Below w5.heap.size w5 w'):=fun v2 h2 => by
  have h1:=HNN.out.1.nums (by have:=HLn.out.1; omega)
  rw [HLn.out.1] at h1
  rw [HXY.out] at h2
  refine (eqNums _ _ _ _ _ _ _ w5 h1 h2).mono ?_
  rintro e w' ⟨rfl,hb⟩
  exact ⟨ret_bool (eqB_yes fun _ _ => rfl),hb⟩
 have HE13 : Hid (∀ v1 v2 wk k,NumsAt wk.heap.size wk v1 k (lz (X.take k))→NumsAt wk.heap.size wk v2 k (lz (Z.take k))→k = min lx lz'→Calls Tryz.prog 24 #[v1,v2] wk fun e w' => e = .returned (.bool true)∧∃ n,w' = wk.drewN n):=fun v1 v2 wk k h1 h2 hk => by
  rw [hk,HXZ.out] at h1
  rw [hk] at h2
  refine (eqNumsQ _ _ _ _ _ _ _ wk (hk ▸ h1) (hk ▸ h2)).mono ?_
  rintro e w' ⟨rfl,hb⟩
  exact ⟨ret_bool (eqB_yes fun _ _ => rfl),hb⟩
 have HPX:=(show Hid _ from hx)
 have HPZ:=(show Hid _ from hz)
 have HPY:=(show Hid _ from hy)
 clear hx hy hz
 have l0 : (0 : Int) ≤ (lx : Int):=by omega
 go_cut [96] from 75 to 96 (fun q wx => q = .bool false∧Hid (Below w5.heap.size w5 wx))
 case first =>
  rcases HPY.out with ⟨rfl,rfl,hY0⟩ | ⟨gy,rfl,hyc⟩
  ·have hl:=HLn.out
   rw [hY0] at hl
   obtain rfl : ly = 0:=hl.2.1.symm
   obtain rfl : lx = 0:=by omega
   clear hl
   go_wp2_with (go_at_call 24; refine (HE7.out _ ⟨none,0,rfl,by omega,Or.inl rfl⟩).mono ?_; rintro e w6 ⟨rfl,hb6⟩)
   go_meet
   exact ⟨rfl,hb6⟩
  ·have l1 : (lx : Int) ≤ (yc : Int):=by omega
   have l2 : (lx : Int) ≤ (ly : Int):=by omega
   have hd : decide (ly < lx) = false:=by simp; omega
   go_wp2_with (go_at_call 24; refine (HE7.out _ (HNN.out.2.1.first (by have:=HLn.out.2.1; omega) (by have:=HLn.out.2.1; omega) _)).mono ?_; rintro e w6 ⟨rfl,hb6⟩)
   go_meet
   exact ⟨rfl,hb6⟩
 case rest =>
  obtain ⟨rfl,HB6⟩:=hcut
  generalize wc = W6 at *
  have HW6 : Hid (Below W4.heap.size W4 W6):=below_step HH.out HB6.out
  obtain ⟨⟨s2',s3',s4'⟩,NX6,NY6,NZ6,b6⟩:=HC4.out W6 HW6.out
  have HN6 : Hid (NOwn w.heap.size W6 (.slice xa lx xc) X∧NOwn W3.heap.size W6 (.slice za lz' zc) Z∧Below w.heap.size w W6):=⟨NX6,NZ6,b6⟩
  clear s2 s3 s4 NX6 NY6 NZ6 b6
  go_upto_region 9 with (fail)
  go_cut [114] from 97 to 114 (fun q wx => q = .bool false∧wx = W6)
  case first =>
   by_cases e1 : stx = 1
   ·have f1:=H12.out.1 e1
    rw [e1] at s2'
    rw [f1] at s3'
    go_wp2
    go_meet
    exact ⟨rfl,rfl⟩
   ·by_cases e2 : stx = 2
    ·have f2:=H12.out.2 e2
     rw [e2] at s2'
     rw [f2] at s3'
     go_wp2
     go_meet
     exact ⟨rfl,rfl⟩
    ·have g1 : (stx == 1) = false:=by simp [e1]
     have g2 : (stx == 2) = false:=by simp [e2]
     go_wp2
     go_meet
     exact ⟨rfl,rfl⟩
  case rest =>
   obtain ⟨rfl,rfl⟩:=hcut
   obtain ⟨k,hk⟩ : ∃ k,min lx lz' = k:=⟨_,rfl⟩
   have HKm : Hid (min lx lz' = k):=hk
   have k1 : k ≤ lx:=by omega
   have k2 : k ≤ lz':=by omega
   go_upto_region 11 with (fail)
   go_cut [20] from 115 to 119 (fun q wx => q = .int .i64 (k : Nat)∧wx = wc)
   case first =>
    go_wp2
    go_meet
    refine ⟨?_,rfl⟩
    congr 1
    omega
   case rest =>
    obtain ⟨rfl,rfl⟩:=hcut
    go_upto_region 12 with (fail)
    go_cut [21] from 120 to 137 (fun q wx => q = .bool ov∧wx = wc)
    case first =>
     have ho:=HOv.out
     by_cases e1 : stx = 0
     ·obtain rfl : ov = false:=by cases ov; rfl; exact absurd e1 (ho.1 rfl).1
      rw [e1] at s2'
      go_wp2
      go_meet
      exact ⟨rfl,rfl⟩
     by_cases e2 : stx = 3
     ·obtain rfl : ov = false:=by cases ov; rfl; exact absurd e2 (ho.1 rfl).2.1
      rw [e2] at s2'
      go_wp2
      go_meet
      exact ⟨rfl,rfl⟩
     have q1 : (stx != 0) = true:=by simp [e1]
     have q2 : (stx != 3) = true:=by simp [e2]
     by_cases e3 : stz = 0
     ·obtain rfl : ov = false:=by cases ov; rfl; exact absurd e3 (ho.1 rfl).2.2.1
      rw [e3] at s4'
      go_wp2
      go_meet
      exact ⟨rfl,rfl⟩
     by_cases e4 : stz = 3
     ·obtain rfl : ov = false:=by cases ov; rfl; exact absurd e4 (ho.1 rfl).2.2.2
      rw [e4] at s4'
      go_wp2
      go_meet
      exact ⟨rfl,rfl⟩
     have q3 : (stz != 0) = true:=by simp [e3]
     have q4 : (stz != 3) = true:=by simp [e4]
     obtain rfl : ov = true:=ho.2 ⟨e1,e2,e3,e4⟩
     go_wp2
     go_meet
     exact ⟨rfl,rfl⟩
    case rest =>
     obtain ⟨rfl,rfl⟩:=hcut
     have m0 : (0 : Int) ≤ (k : Int):=by omega
     have m1 : (k : Int) ≤ (lx : Int):=by omega
     have m2 : (k : Int) ≤ (lz' : Int):=by omega
     rcases HPX.out with ⟨rfl,rfl,hX0⟩ | ⟨gx,rfl,hxc⟩
     all_goals
      rcases HPZ.out with ⟨rfl,rfl,hZ0⟩ | ⟨gz,rfl,hzc⟩
     ·have hl:=HLn.out.1
      rw [hX0] at hl
      obtain rfl : lx = 0:=hl.symm
      obtain rfl : k = 0:=by omega
      clear hl
      have hl2:=HLn.out.2.2
      rw [hZ0] at hl2
      obtain rfl : lz' = 0:=hl2.symm
      clear hl2
      have HQ : Hid (∀ y,Calls Tryz.prog 24 #[.slice none 0 0,.slice none 0 0] (wc.drewN y) fun e w' => e = .returned (.bool true)∧∃ n,w' = (wc.drewN y).drewN n):=fun y => HE13.out _ _ (wc.drewN y) 0 (⟨none,0,rfl,by omega,Or.inl rfl⟩) (⟨none,0,rfl,by omega,Or.inl rfl⟩) HKm.out.symm
      cases ov with
      | false =>
       go_upto_region 13 with (fail)
       go_quiet ((go_at_call 24; exact Calls.quiet_of (HQ.out _)))
       go_wp2
       go_ret
       exact ⟨rfl,below_step HN6.out.2.2 (below_drewN' _ _)⟩
      | true =>
       obtain ⟨f1,f2⟩:=HOv2.out rfl
       subst f1
       clear f2
       go_upto_region 13 with (fail)
       go_quiet ((go_at_call 24; exact Calls.quiet_of (HQ.out _)))
       go_wp2
       go_ret
       exact ⟨rfl,below_step HN6.out.2.2 (below_drewN' _ _)⟩
     ·have hl:=HLn.out.1
      rw [hX0] at hl
      obtain rfl : lx = 0:=hl.symm
      obtain rfl : k = 0:=by omega
      clear hl
      have HQ : Hid (∀ y,Calls Tryz.prog 24 #[.slice none 0 0,.slice (some ⟨gz,0,none⟩) 0 zc] (wc.drewN y) fun e w' => e = .returned (.bool true)∧∃ n,w' = (wc.drewN y).drewN n):=fun y => HE13.out _ _ (wc.drewN y) 0 (⟨none,0,rfl,by omega,Or.inl rfl⟩) ((HN6.out.2.1.below (below_drewN' _ _)).first (by have:=HLn.out.2.2; omega) (by have:=HLn.out.2.2; omega) zc) HKm.out.symm
      cases ov with
      | false =>
       go_upto_region 13 with (fail)
       go_quiet ((go_at_call 24; exact Calls.quiet_of (HQ.out _)))
       go_wp2
       go_ret
       exact ⟨rfl,below_step HN6.out.2.2 (below_drewN' _ _)⟩
      | true =>
       obtain ⟨f1,f2⟩:=HOv2.out rfl
       subst f1
       subst f2
       go_upto_region 13 with (fail)
       go_quiet ((go_at_call 24; exact Calls.quiet_of (HQ.out _)))
       go_wp2
       go_ret
       exact ⟨rfl,below_step HN6.out.2.2 (below_drewN' _ _)⟩
     ·have hl:=HLn.out.2.2
      rw [hZ0] at hl
      obtain rfl : lz' = 0:=hl.symm
      obtain rfl : k = 0:=by omega
      clear hl
      have HQ : Hid (∀ y,Calls Tryz.prog 24 #[.slice (some ⟨gx,0,none⟩) 0 xc,.slice none 0 0] (wc.drewN y) fun e w' => e = .returned (.bool true)∧∃ n,w' = (wc.drewN y).drewN n):=fun y => HE13.out _ _ (wc.drewN y) 0 ((HN6.out.1.below (below_drewN' _ _)).first (by have:=HLn.out.1; omega) (by have:=HLn.out.1; omega) xc) (⟨none,0,rfl,by omega,Or.inl rfl⟩) HKm.out.symm
      cases ov with
      | false =>
       go_upto_region 13 with (fail)
       go_quiet ((go_at_call 24; exact Calls.quiet_of (HQ.out _)))
       go_wp2
       go_ret
       exact ⟨rfl,below_step HN6.out.2.2 (below_drewN' _ _)⟩
      | true =>
       obtain ⟨f1,f2⟩:=HOv2.out rfl
       subst f1
       subst f2
       go_upto_region 13 with (fail)
       go_quiet ((go_at_call 24; exact Calls.quiet_of (HQ.out _)))
       go_wp2
       go_ret
       exact ⟨rfl,below_step HN6.out.2.2 (below_drewN' _ _)⟩
     ·have m3 : (k : Int) ≤ (xc : Int):=by omega
      have m4 : (k : Int) ≤ (zc : Int):=by omega
      have HQ : Hid (∀ y,Calls Tryz.prog 24 #[.slice (some ⟨gx,0,none⟩) k xc,.slice (some ⟨gz,0,none⟩) k zc] (wc.drewN y) fun e w' => e = .returned (.bool true)∧∃ n,w' = (wc.drewN y).drewN n):=fun y => HE13.out _ _ (wc.drewN y) k ((HN6.out.1.below (below_drewN' _ _)).first (by have:=HLn.out.1; omega) (by have:=HLn.out.1; omega) xc) ((HN6.out.2.1.below (below_drewN' _ _)).first (by have:=HLn.out.2.2; omega) (by have:=HLn.out.2.2; omega) zc) HKm.out.symm
      cases ov with
      | false =>
       go_upto_region 13 with (fail)
       go_quiet ((go_at_call 24; exact Calls.quiet_of (HQ.out _)))
       go_wp2
       go_ret
       exact ⟨rfl,below_step HN6.out.2.2 (below_drewN' _ _)⟩
      | true =>
       obtain ⟨f1,f2⟩:=HOv2.out rfl
       subst f1
       subst f2
       go_upto_region 13 with (fail)
       go_quiet ((go_at_call 24; exact Calls.quiet_of (HQ.out _)))
       go_wp2
       go_ret
       exact ⟨rfl,below_step HN6.out.2.2 (below_drewN' _ _)⟩
theorem soloBegins {np : Nat} {P : Nat→Pc} (M : Nat) (vp : Value) (a b t m : Int) (w : World) (hM : M ≤ w.heap.size) (hp : ProcsAt M w vp np P) (HR : TrueC 29 w) :
  Calls Tryz.prog 7 #[vp,.int .i64 a,.int .i64 b,.int .i64 t,.int .i64 m] w fun e w' => e = .returned (.bool true)∧Hid (Below w.heap.size w w'):=by
 obtain ⟨pa,pc,rfl,_⟩:=id hp
 have nat : ∀ (x : Int) (n : Nat),0 < n→∃ r : Nat,x % (n : Int) = r∧r < n:=fun x n hn => by
  have h1:=Int.emod_nonneg x (b:=(n : Int)) (by omega)
  have h2:=Int.emod_lt_of_pos x (b:=(n : Int)) (by omega)
  exact ⟨(x % (n : Int)).toNat,by omega,by omega⟩
 obtain ⟨ra,ea,ha⟩:=nat a 100 (by decide)
 obtain ⟨rb,eb,hb⟩:=nat b 100 (by decide)
 obtain ⟨rt,et,ht⟩:=nat t 20 (by decide)
 obtain ⟨rm,em,hm⟩:=nat m 20 (by decide)
 have hat : ∀ wk,(Calls Tryz.prog 25 #[.int .i64 a,.int .i64 100] wk fun e w' => e = .returned (.int .i64 (ra : Int))∧w' = wk)∧(Calls Tryz.prog 25 #[.int .i64 b,.int .i64 100] wk fun e w' => e = .returned (.int .i64 (rb : Int))∧w' = wk)∧(Calls Tryz.prog 25 #[.int .i64 t,.int .i64 20] wk fun e w' => e = .returned (.int .i64 (rt : Int))∧w' = wk)∧(Calls Tryz.prog 25 #[.int .i64 m,.int .i64 20] wk fun e w' => e = .returned (.int .i64 (rm : Int))∧w' = wk):=fun wk => by
  have q1:=lawAt a 100 (by decide) (by decide) wk
  have q2:=lawAt b 100 (by decide) (by decide) wk
  have q3:=lawAt t 20 (by decide) (by decide) wk
  have q4:=lawAt m 20 (by decide) (by decide) wk
  rw [ea] at q1
  rw [eb] at q2
  rw [et] at q3
  rw [em] at q4
  exact ⟨q1,q2,q3,q4⟩
 have hpk : ∀ wk,Below w.heap.size w wk→ProcsAt M wk (.slice pa np pc) np P:=fun wk hk => hp.below (hk.mono hM)
 have hMk : ∀ wk,Below w.heap.size w wk→M ≤ wk.heap.size:=fun wk hk => Nat.le_trans hM hk.size
 by_cases hc : codeErr np P = 0
 ·have run : ∀ (f n : Nat),1 ≤ f→f ≤ 2000→n ≤ 120→∀ wk,Below w.heap.size w wk→Calls Tryz.prog 28 #[.slice pa np pc,.int .i64 (f : Int),.int .i64 (n : Int)] wk fun e w' => ∃ sa sc fa fc ca cc,e = .returned (.tuple #[.slice sa (soloM P f n ⟨[⟨0,0,List.replicate (P 0).regs.toNat (0,0),0⟩],[],0,0⟩ []).1.length sc,.agg #[.slice fa (soloM P f n ⟨[⟨0,0,List.replicate (P 0).regs.toNat (0,0),0⟩],[],0,0⟩ []).2.fs.length fc,.slice ca (soloM P f n ⟨[⟨0,0,List.replicate (P 0).regs.toNat (0,0),0⟩],[],0,0⟩ []).2.cs.length cc,.int .i64 (soloM P f n ⟨[⟨0,0,List.replicate (P 0).regs.toNat (0,0),0⟩],[],0,0⟩ []).2.st,.int .i64 (soloM P f n ⟨[⟨0,0,List.replicate (P 0).regs.toNat (0,0),0⟩],[],0,0⟩ []).2.wh],.int .i64 0])∧Hid (NOwn wk.heap.size w' (.slice sa (soloM P f n ⟨[⟨0,0,List.replicate (P 0).regs.toNat (0,0),0⟩],[],0,0⟩ []).1.length sc) (soloM P f n ⟨[⟨0,0,List.replicate (P 0).regs.toNat (0,0),0⟩],[],0,0⟩ []).1)∧Hid (Below wk.heap.size wk w')∧(soloM P f n ⟨[⟨0,0,List.replicate (P 0).regs.toNat (0,0),0⟩],[],0,0⟩ []).1.length ≤ 4800:=fun f n h1 h2 h3 wk hk => by
   refine (soloP M f n _ wk (hMk wk hk) (hpk wk hk) hc h3 h1 h2 _ _ rfl).mono ?_
   rintro e w' ⟨sa,sc,fa,fc,ca,cc,rfl,g1,_,g2,_,g3⟩
   exact ⟨sa,sc,fa,fc,ca,cc,rfl,g1,g3,g2⟩
  have len : ∀ (f n : Nat),1 ≤ f→f ≤ 2000→n ≤ 120→(soloM P f n ⟨[⟨0,0,List.replicate (P 0).regs.toNat (0,0),0⟩],[],0,0⟩ []).1.length ≤ 4800:=fun f n h1 h2 h3 => solo_len f n h2 h3 _ (new_right (codeErr_right hc)) (codeErr_right hc)
  obtain ⟨⟨tl,b1⟩,b2,b3,b4,b5⟩:=begins (P:=P) (a:=1 + ra) (b:=1 + rb) (by omega) (by omega) rt rm ⟨[⟨0,0,List.replicate (P 0).regs.toNat (0,0),0⟩],[],0,0⟩
  have rx:=run (1 + ra) rt (by omega) (by omega) (by omega)
  have ry:=run (1 + ra) (rt + rm) (by omega) (by omega) (by omega)
  have rz:=run (1 + rb) rt (by omega) (by omega) (by omega)
  have lx:=len (1 + ra) rt (by omega) (by omega) (by omega)
  have ly:=len (1 + ra) (rt + rm) (by omega) (by omega) (by omega)
  have lzz:=len (1 + rb) rt (by omega) (by omega) (by omega)
  have c1 : ((1 + ra : Nat) : Int) = 1 + (ra : Int):=by omega
  have c2 : ((1 + rb : Nat) : Int) = 1 + (rb : Int):=by omega
  have c3 : ((rt + rm : Nat) : Int) = (rt : Int) + (rm : Int):=by omega
  rw [c1] at rx ry
  rw [c2] at rz
  rw [c3] at ry
  generalize soloM P (1 + ra) rt ⟨[⟨0,0,List.replicate (P 0).regs.toNat (0,0),0⟩],[],0,0⟩ [] = RX at *
  generalize soloM P (1 + ra) (rt + rm) ⟨[⟨0,0,List.replicate (P 0).regs.toNat (0,0),0⟩],[],0,0⟩ [] = RY at *
  generalize soloM P (1 + rb) rt ⟨[⟨0,0,List.replicate (P 0).regs.toNat (0,0),0⟩],[],0,0⟩ [] = RZ at *
  have strip : ∀ {R : List Int × Sta} {wk : World} {e : Ending} {w' : World},(∃ sa sc fa fc ca cc,e = .returned (.tuple #[.slice sa R.1.length sc,.agg #[.slice fa R.2.fs.length fc,.slice ca R.2.cs.length cc,.int .i64 R.2.st,.int .i64 R.2.wh],.int .i64 0])∧Hid (NOwn wk.heap.size w' (.slice sa R.1.length sc) R.1)∧Hid (Below wk.heap.size wk w')∧R.1.length ≤ 4800)→∃ sa sc fa fc ca cc,e = .returned (.tuple #[.slice sa R.1.length sc,.agg #[.slice fa R.2.fs.length fc,.slice ca R.2.cs.length cc,.int .i64 R.2.st,.int .i64 R.2.wh],.int .i64 0])∧Hid (NOwn wk.heap.size w' (.slice sa R.1.length sc) R.1)∧Hid (Below wk.heap.size wk w') :=
   fun ⟨sa,sc,fa,fc,ca,cc,h1,h2,h3,_⟩ => ⟨sa,sc,fa,fc,ca,cc,h1,h2,h3⟩
  refine sb_good pa np pc a b t m ra rb rt rm RX.1 RY.1 RZ.1 RX.2.st RY.2.st RZ.2.st RX.2.wh RY.2.wh RZ.2.wh _ _ _ _ _ _ (decide (¬ RX.2.st = 0∧¬ RX.2.st = 3∧¬ RZ.2.st = 0∧¬ RZ.2.st = 3)) w hat ha hb ht hm HR (fun wk hk => (rx wk hk).mono fun _ _ h => strip h) (fun wk hk => (ry wk hk).mono fun _ _ h => strip h) (fun wk hk => (rz wk hk).mono fun _ _ h => strip h) lx ly lzz ?_ ?_ b2 b3 ?_ decide_eq_true_iff fun h => ?_
  ·rw [b1,List.length_append]; omega
  ·show _ = _
   rw [b1,List.take_left']; rfl
  ·exact b4 _ (Nat.min_le_left _ _) (Nat.min_le_right _ _)
  ·obtain ⟨q1,q2,q3,q4⟩:=decide_eq_true_iff.1 h
   exact b5 ⟨q1,q2⟩ ⟨q3,q4⟩
 ·have hse : ∀ fu tu,soloErr np P fu tu = codeErr np P:=fun fu tu => by unfold soloErr; rw [if_neg hc]
  refine sb_bad pa np pc a b t m (codeErr np P) ra rb rt rm w hat ha hb ht hm HR (fun fu tu wk hk => ?_) (by simpa using hc)
  have:=soloBad M _ fu tu wk (hMk wk hk) (hpk wk hk) (by rw [hse]; exact hc)
  rw [hse] at this
  exact this
end Go.Proofs.YtfaokaohhchdhaaGreatDoor
