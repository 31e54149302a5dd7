/- RecordSays: records are checked, printed, held against others, texts read, as the reckoning says: the law over memory. -/
import Derived.Test.YtfaggdkiffhdbaaDoorRRd2
import Derived.Test.YtfaggdkiffhdbaaDoorRSame
import Derived.Test.YtfaggdkiffhdbaaDoorPart35
namespace Go.Proofs.YtfaggdkiffhdbaaDoor
open Go.RowKit Go.Maps

set_option maxRecDepth 20000 in
set_option maxHeartbeats 8000000 in
theorem rs_core (r q x : Rc) (er ex : Int) (b : Bool) (tr s : ByteArray) (sa ia sb ib : Option Addr) (sc ic sbc ibc : Nat) (w W : World)
  (HW : Hid ((w.alloc (.cells #[.int .i64 r.kind,.int .i64 r.co,.int .i64 r.ep,.int .i64 r.pl,.slice sa r.says.length sc,.slice ia r.img.length ic] 24)).alloc (.cells #[.int .i64 q.kind,.int .i64 q.co,.int .i64 q.ep,.int .i64 q.pl,.slice sb q.says.length sbc,.slice ib q.img.length ibc] 24)=W)) (HB : Hid (Below w.heap.size w W))
  (HX : Hid (∀ wk,Below W.heap.size W wk→(wk.cell? ⟨w.heap.size,0,none⟩=some (.int .i64 r.kind)∧wk.cell? ⟨w.heap.size,1,none⟩=some (.int .i64 r.co)∧wk.cell? ⟨w.heap.size,2,none⟩=some (.int .i64 r.ep)∧wk.cell? ⟨w.heap.size,3,none⟩=some (.int .i64 r.pl)∧wk.cell? ⟨w.heap.size,4,none⟩=some (.slice sa r.says.length sc)∧wk.cell? ⟨w.heap.size,5,none⟩=some (.slice ia r.img.length ic))∧wk.cell? ⟨w.heap.size + 1,0,none⟩=some (.int .i64 q.kind)∧wk.cell? ⟨w.heap.size + 1,1,none⟩=some (.int .i64 q.co)∧wk.cell? ⟨w.heap.size + 1,2,none⟩=some (.int .i64 q.ep)∧wk.cell? ⟨w.heap.size + 1,3,none⟩=some (.int .i64 q.pl)∧wk.cell? ⟨w.heap.size + 1,4,none⟩=some (.slice sb q.says.length sbc)∧wk.cell? ⟨w.heap.size + 1,5,none⟩=some (.slice ib q.img.length ibc)))
  (HL : Hid (∀ wk,Below W.heap.size W wk→Calls Tryd.prog 8 #[] wk fun e w' => e=.returned (.bool true)∧Below wk.heap.size wk w'))
  (HP1 : Hid (Calls Tryd.prog 5 #[.agg #[.int .i64 r.kind,.int .i64 r.co,.int .i64 r.ep,.int .i64 r.pl,.slice sa r.says.length sc,.slice ia r.img.length ic]] W fun e w' => e=.returned (.tuple #[.string tr,.int .i64 er])∧Below W.heap.size W w'))
  (HTx : Hid (∀ wk,Below W.heap.size W wk→Calls Tryd.prog 7 #[.agg #[.int .i64 r.kind,.int .i64 r.co,.int .i64 r.ep,.int .i64 r.pl,.slice sa r.says.length sc,.slice ia r.img.length ic]] wk fun e w' => e=.returned (.tuple #[.string tr,.int .i64 er])∧Below wk.heap.size wk w'))
  (HCk : Hid (∀ wk,Below W.heap.size W wk→Calls Tryd.prog 9 #[.agg #[.int .i64 r.kind,.int .i64 r.co,.int .i64 r.ep,.int .i64 r.pl,.slice sa r.says.length sc,.slice ia r.img.length ic]] wk fun e w' => e=.returned (.int .i64 er)∧Below wk.heap.size wk w'))
  (HSm : Hid (∀ wk,Below W.heap.size W wk→Calls Tryd.prog 10 #[.agg #[.int .i64 r.kind,.int .i64 r.co,.int .i64 r.ep,.int .i64 r.pl,.slice sa r.says.length sc,.slice ia r.img.length ic],.agg #[.int .i64 q.kind,.int .i64 q.co,.int .i64 q.ep,.int .i64 q.pl,.slice sb q.says.length sbc,.slice ib q.img.length ibc]] wk fun e w' => e=.returned (.bool b)∧Below wk.heap.size wk w'))
  (HSr : Hid (∀ wk,Below W.heap.size W wk→Calls Tryd.prog 11 #[.agg #[.int .i64 r.kind,.int .i64 r.co,.int .i64 r.ep,.int .i64 r.pl,.slice sa r.says.length sc,.slice ia r.img.length ic],.agg #[.int .i64 q.kind,.int .i64 q.co,.int .i64 q.ep,.int .i64 q.pl,.slice sb q.says.length sbc,.slice ib q.img.length ibc]] wk fun e w' => e=.returned (.bool b)∧Below wk.heap.size wk w'))
  (HPs : Hid (∀ wk,Below W.heap.size W wk→Calls Tryd.prog 6 #[.string s] wk (RecKt wk x (.int .i64 ex))))
  (HBig : 60000 < s.size→ex=2)
  (HSz : Hid (60000 < s.size→∀ xa xc ya yc wk,Below W.heap.size W wk→RecT wk xa xc ya yc x→Calls Tryd.prog 11 #[.agg #[.int .i64 x.kind,.int .i64 x.co,.int .i64 x.ep,.int .i64 x.pl,.slice xa x.says.length xc,.slice ya x.img.length yc],.agg #[.int .i64 0,.int .i64 0,.int .i64 0,.int .i64 0,.slice none 0 0,.slice none 0 0]] wk fun e w' => e=.returned (.bool true)∧Below wk.heap.size wk w'))
  (HRd : Hid (¬ 60000 < s.size→∀ wk,Below W.heap.size W wk→Calls Tryd.prog 12 #[.string s] wk (RecKt wk x (.int .i64 ex))))
  (HSx : Hid (∀ xa xc ya yc za zc ua uc wk,Below W.heap.size W wk→RecT wk xa xc ya yc x→RecT wk za zc ua uc x→Calls Tryd.prog 11 #[.agg #[.int .i64 x.kind,.int .i64 x.co,.int .i64 x.ep,.int .i64 x.pl,.slice xa x.says.length xc,.slice ya x.img.length yc],.agg #[.int .i64 x.kind,.int .i64 x.co,.int .i64 x.ep,.int .i64 x.pl,.slice za x.says.length zc,.slice ua x.img.length uc]] wk fun e w' => e=.returned (.bool true)∧Below wk.heap.size wk w')) :
  Calls Tryd.prog 3 #[.agg #[.int .i64 r.kind,.int .i64 r.co,.int .i64 r.ep,.int .i64 r.pl,.slice sa r.says.length sc,.slice ia r.img.length ic],.agg #[.int .i64 q.kind,.int .i64 q.co,.int .i64 q.ep,.int .i64 q.pl,.slice sb q.says.length sbc,.slice ib q.img.length ibc],.string s] w fun e w' => e=.returned (.bool true)∧Hid (Below w.heap.size w w'):=by
 have hbb : (b != b)=false:=by simp
 have hee : (er != er)=false:=by simp
 have htt : (tr.toList != tr.toList)=false:=by simp
 have hxx : (ex == ex)=true:=by simp
 go_enter Tryd.func3,Tryd.ntmps3
 go_upto_region 1 with (fail)
 try rw [HW.out]
 obtain ⟨⟨k0,k1,k2,k3,k4,k5⟩,l0,l1,l2,l3,l4,l5⟩:=HX.out W (Below.refl _ _)
 go_upto_region 2 with (go_at_call 5; refine HP1.out.mono ?_; rintro e w1 ⟨rfl,hb1⟩)
 clear k0 k1 k2 k3 k4 k5 l0 l1 l2 l3 l4 l5
 go_upto_region 3 with (go_at_call 6; refine (HPs.out w1 hb1).mono ?_; rintro e w2 ⟨xa,xc,ya,yc,rfl,HO2,HB2⟩)
 obtain ⟨W3,hW3,hb3',hsz3,m0,m1,m2,m3,m4,m5⟩:=rbox w2 x.kind x.co x.ep x.pl (.slice xa x.says.length xc) (.slice ya x.img.length yc)
 try rw [hW3]
 have hb3 : Below W.heap.size W W3:=below_step hb1 (below_step HB2.out hb3')
 have HO3 : Hid (RecT W3 xa xc ya yc x):=HO2.out.below hb3'
 have HM : Hid (∀ wk,Below W3.heap.size W3 wk→wk.cell? ⟨w2.heap.size,0,none⟩=some (.int .i64 x.kind)∧wk.cell? ⟨w2.heap.size,1,none⟩=some (.int .i64 x.co)∧wk.cell? ⟨w2.heap.size,2,none⟩=some (.int .i64 x.ep)∧wk.cell? ⟨w2.heap.size,3,none⟩=some (.int .i64 x.pl)∧wk.cell? ⟨w2.heap.size,4,none⟩=some (.slice xa x.says.length xc)∧wk.cell? ⟨w2.heap.size,5,none⟩=some (.slice ya x.img.length yc)):=fun wk hk => ⟨at_below hk m0,at_below hk m1,at_below hk m2,at_below hk m3,at_below hk m4,at_below hk m5⟩
 clear hW3 hsz3 m0 m1 m2 m3 m4 m5 hb3' HO2 HB2
 obtain ⟨⟨k0,k1,k2,k3,k4,k5⟩,l0,l1,l2,l3,l4,l5⟩:=HX.out W3 hb3
 go_upto_region 4 with (go_at_call 7; refine (HTx.out _ hb3).mono ?_; rintro e w4 ⟨rfl,hb4'⟩)
 have hb4 : Below W3.heap.size W3 w4:=hb4'
 have HU : Hid (∀ wk,Below W3.heap.size W3 wk→Below W.heap.size W wk):=fun wk hk => below_step hb3 hk
 clear k0 k1 k2 k3 k4 k5 l0 l1 l2 l3 l4 l5 hb4' hb1 hb3
 obtain ⟨⟨k0,k1,k2,k3,k4,k5⟩,l0,l1,l2,l3,l4,l5⟩:=HX.out w4 (HU.out _ hb4)
 have hb4d : Below W3.heap.size W3 w4.drew:=hb4.drew
 go_region_held3 (fun w' => (w'.cell? ⟨w.heap.size,0,none⟩=some (.int .i64 r.kind)∧w'.cell? ⟨w.heap.size,1,none⟩=some (.int .i64 r.co)∧w'.cell? ⟨w.heap.size,2,none⟩=some (.int .i64 r.ep)∧w'.cell? ⟨w.heap.size,3,none⟩=some (.int .i64 r.pl)∧w'.cell? ⟨w.heap.size,4,none⟩=some (.slice sa r.says.length sc)∧w'.cell? ⟨w.heap.size,5,none⟩=some (.slice ia r.img.length ic))∧w'.cell? ⟨w.heap.size + 1,0,none⟩=some (.int .i64 q.kind)∧w'.cell? ⟨w.heap.size + 1,1,none⟩=some (.int .i64 q.co)∧w'.cell? ⟨w.heap.size + 1,2,none⟩=some (.int .i64 q.ep)∧w'.cell? ⟨w.heap.size + 1,3,none⟩=some (.int .i64 q.pl)∧w'.cell? ⟨w.heap.size + 1,4,none⟩=some (.slice sb q.says.length sbc)∧w'.cell? ⟨w.heap.size + 1,5,none⟩=some (.slice ib q.img.length ibc))
  (first | exact HX.out _ (HU.out _ hb4d) | exact HX.out _ (HU.out _ hb8) | exact HX.out _ (HU.out _ hb7) | exact HX.out _ (HU.out _ hb6) | exact HX.out _ (HU.out _ hb5))
  (first
   | (go_at_call 11; refine (HSr.out _ (HU.out _ hb7)).mono ?_; rintro e w8 ⟨rfl,hb8'⟩; have hb8:=below_step hb7 hb8'; clear hb8')
   | (go_at_call 10; refine (HSm.out _ (HU.out _ hb6)).mono ?_; rintro e w7 ⟨rfl,hb7'⟩; have hb7:=below_step hb6 hb7'; clear hb7')
   | (go_at_call 9; refine (HCk.out _ (HU.out _ hb5)).mono ?_; rintro e w6 ⟨rfl,hb6'⟩; have hb6:=below_step hb5 hb6'; clear hb6')
   | (go_at_call 8; refine (HL.out _ (HU.out _ hb4d)).mono ?_; rintro e w5 ⟨rfl,hb5'⟩; have hb5:=below_step hb4d hb5'; clear hb5'))
 all_goals
  clear hb4 hb4d hb5 hb6 hb7 k0 k1 k2 k3 k4 k5 l0 l1 l2 l3 l4 l5 HSr HSm HCk HL HTx HP1 HPs
  obtain ⟨m0,m1,m2,m3,m4,m5⟩:=HM.out w8 hb8
  by_cases hl : 60000 < s.size
  ·have hli : (60000 : Int) < (s.size : Int):=by omega
   have he2 : (ex == 2)=true:=by rw [HBig hl]; rfl
   have HSz1:=(show Hid _ from HSz.out hl)
   clear hl HBig HRd HSz
   go_wp2_with (go_at_call 11; refine (HSz1.out _ _ _ _ w8 (HU.out _ hb8) (HO3.out.below hb8)).mono ?_; rintro e w9 ⟨rfl,hb9⟩)
   go_ret
   exact ⟨rfl,below_step HB.out (below_step (HU.out _ hb8) hb9)⟩
  ·have hli : ¬ (60000 : Int) < (s.size : Int):=by omega
   have HRd1:=(show Hid _ from HRd.out hl)
   clear hl HBig HRd HSz
   go_upto_region 9 with (go_at_call 12; refine (HRd1.out w8 (HU.out _ hb8)).mono ?_; rintro e w9 ⟨za,zc,ua,uc,rfl,HO9,HB9⟩)
   obtain ⟨WA,hWA,hbA,hszA,n0,n1,n2,n3,n4,n5⟩:=rbox w9 x.kind x.co x.ep x.pl (.slice za x.says.length zc) (.slice ua x.img.length uc)
   try rw [hWA]
   have hb3A : Below W3.heap.size W3 WA:=below_step hb8 (below_step HB9.out hbA)
   have HOA : Hid (RecT WA za zc ua uc x):=HO9.out.below hbA
   clear hWA hszA m0 m1 m2 m3 m4 m5
   obtain ⟨m0,m1,m2,m3,m4,m5⟩:=HM.out WA hb3A
   go_wp2_with (go_at_call 11; refine (HSx.out _ _ _ _ _ _ _ _ WA (HU.out _ hb3A) (HO3.out.below hb3A) HOA.out).mono ?_; rintro e wB ⟨rfl,hbB⟩)
   go_ret
   exact ⟨rfl,below_step HB.out (below_step (HU.out _ hb3A) hbB)⟩

theorem rTextE (N M : Nat) (r : Rc) (sc ic : Nat) (sa ia : Option Addr) (w : World) (hN : N≤w.heap.size) (he : NEnv N w) (hM : M≤w.heap.size) (h : RecIn M w sa sc ia ic r) (hk : (Lit.int .i64 r.kind).wf=true) :
  Calls Tryd.prog 7 #[.agg #[.int .i64 r.kind,.int .i64 r.co,.int .i64 r.ep,.int .i64 r.pl,.slice sa r.says.length sc,.slice ia r.img.length ic]] w fun e w' => e=.returned (.tuple #[.string (rcText r),.int .i64 (recErr r)])∧Below w.heap.size w w':=by
 have hck : RCk r sa sc ia ic:=fun wk => rCheck r sc ic sa ia wk hk
 by_cases h0 : recErr r=0
 ·rw [rcText_ok h0,h0]
  exact rTextC N M r sc ic sa ia w hN he hM h.1 h.2 hck h0
 ·unfold rcText
  rw [if_neg h0]
  exact rTextBad r sc ic sa ia w hck h0

theorem recordSays (N : Nat) (r q : Rc) (s : ByteArray) (sa ia sb ib : Option Addr) (sc ic sbc ibc : Nat) (w : World) (hN : N≤w.heap.size) (he : NEnv N w)
  (hr : RecIn w.heap.size w sa sc ia ic r) (hq : RecIn w.heap.size w sb sbc ib ibc q) (hk : (Lit.int .i64 r.kind).wf=true) :
  Calls Tryd.prog 3 #[.agg #[.int .i64 r.kind,.int .i64 r.co,.int .i64 r.ep,.int .i64 r.pl,.slice sa r.says.length sc,.slice ia r.img.length ic],.agg #[.int .i64 q.kind,.int .i64 q.co,.int .i64 q.ep,.int .i64 q.pl,.slice sb q.says.length sbc,.slice ib q.img.length ibc],.string s] w fun e w' => e=.returned (.bool true)∧Hid (Below w.heap.size w w'):=by
 obtain ⟨W,hW,HB,HX⟩:=two_rbox w r.kind r.co r.ep r.pl q.kind q.co q.ep q.pl (.slice sa r.says.length sc) (.slice ia r.img.length ic) (.slice sb q.says.length sbc) (.slice ib q.img.length ibc)
 have hin : ∀ {wk},Below W.heap.size W wk→Below w.heap.size w wk:=fun hk => below_step HB.out hk
 have hNk : ∀ {wk},Below W.heap.size W wk→N≤wk.heap.size:=fun hk => Nat.le_trans hN (hin hk).size
 have hek : ∀ {wk},Below W.heap.size W wk→NEnv N wk:=fun hk => he.below ((hin hk).mono hN)
 have hrk : ∀ {wk},Below W.heap.size W wk→RecIn w.heap.size wk sa sc ia ic r:=fun hk => hr.below (hin hk)
 have hqk : ∀ {wk},Below W.heap.size W wk→RecIn w.heap.size wk sb sbc ib ibc q:=fun hk => hq.below (hin hk)
 have hsz : s.data.toList.length=s.size:=by simp
 have hbig : 60000 < s.size→recSays s.data.toList=(2,rc0):=fun h => by unfold recSays; rw [if_pos (by omega)]
 refine rs_core r q (recSays s.data.toList).2 (recErr r) (recSays s.data.toList).1 (rcEq r q) (rcText r) s sa ia sb ib sc ic sbc ibc w W hW HB HX ?_ ?_ ?_ ?_ ?_ ?_ ?_ ?_ ?_ ?_ ?_
 ·exact fun wk hk => lined N wk (hNk hk) (hek hk)
 ·exact recPrintE N w.heap.size r sc ic sa ia W (hNk (Below.refl _ _)) (hek (Below.refl _ _)) HB.out.size (hrk (Below.refl _ _))
 ·exact fun wk hk' => rTextE N w.heap.size r sc ic sa ia wk (hNk hk') (hek hk') (hin hk').size (hrk hk') hk
 ·exact fun wk hk => recCheckC r sc ic sa ia wk
 ·exact fun wk hk => recSameC w.heap.size r q sc ic sbc ibc sa ia sb ib wk (hin hk).size (hrk hk).1 (hrk hk).2 (hqk hk).1 (hqk hk).2
 ·exact fun wk hk => rSameC w.heap.size r q sc ic sbc ibc sa ia sb ib wk (hin hk).size (hrk hk).1 (hrk hk).2 (hqk hk).1 (hqk hk).2
 ·exact fun wk hk => (recParseC N s wk (hNk hk) (hek hk)).mono fun e w' h => h.T
 ·intro h; rw [hbig h]
 ·refine fun hb xa xc ya yc wk hk ho => ?_
  rw [hbig hb] at ho ⊢
  have:=rSameC wk.heap.size rc0 rc0 xc yc 0 0 xa ya none none wk (Nat.le_refl _) ho.rec.1 ho.rec.2 (NumsT.none wk).list (NumsT.none wk).list
  rw [rcEq_iff.2 rfl] at this
  exact this
 ·exact fun hb wk hk => rReadC N s (by omega) wk (hNk hk) (hek hk)
 ·refine fun xa xc ya yc za zc ua uc wk hk ho hp => ?_
  have:=rSameC wk.heap.size (recSays s.data.toList).2 (recSays s.data.toList).2 xc yc zc uc xa ya za ua wk (Nat.le_refl _) ho.rec.1 ho.rec.2 hp.rec.1 hp.rec.2
  rw [rcEq_iff.2 rfl] at this
  exact this

section
variable {H : Type} {enc : TypeId×Value→H} {W : World} {base : Nat} {spare : Nat→Bool} {held : Bool}
open Go.ChangeShapes Go.WideShapes Go.ChangeAt Go.Joins
set_option maxRecDepth 20000 in
/-- A record,read; its kind is a number of 64 bits. -/
theorem rec_of_trod2 {r : Reach} {b0 : Nat} {v : Value} {d : DataW H} {p : List MemPlace} (hv : Value.okWide Tryd.prog W r b0 24 v) (h : DataW.Trod enc Tryd.prog W base spare held 24 v d p) :
  ∃ sa sc ia ic R,v=.agg #[.int .i64 R.kind,.int .i64 R.co,.int .i64 R.ep,.int .i64 R.pl,.slice sa R.says.length sc,.slice ia R.img.length ic]∧RecIn W.heap.size W sa sc ia ic R∧(Lit.int .i64 R.kind).wf=true:=by
 obtain ⟨cs,rfl,hsz⟩:=okWide_struct Tryd.underlying24 hv
 obtain ⟨fuel,hf0⟩:=h
 rw [cRec6] at hsz
 obtain ⟨v0,v1,v2,v3,v4,v5,hcs⟩:=lenSix (l:=cs.toList) (by simpa using hsz)
 obtain rfl : cs=#[v0,v1,v2,v3,v4,v5]:=by cases cs; simp_all
 have hf1 : DataW.trod enc Tryd.prog W base spare held fuel 24 [v0,v1,v2,v3,v4,v5]=some (d,p):=by simpa [Value.cells] using hf0
 obtain ⟨xs,k,_,hxy,_,hxl,hf⟩:=DataW.trod_struct Tryd.underlying24 hf1
 obtain ⟨y0,y1,y2,y3,y4,y5,rfl⟩:=lenSix (l:=xs) hxl
 have g0:=hf 0 _ rfl
 have g1:=hf 1 _ rfl
 have g2:=hf 2 _ rfl
 have g3:=hf 3 _ rfl
 have g4:=hf 4 _ rfl
 have g5:=hf 5 _ rfl
 simp [cI1,cLI1] at g0 g1 g2 g3 g4 g5
 obtain ⟨z0,q0,_,w0⟩:=DataW.trod_int Tryd.underlying3 g0
 obtain ⟨z1,q1,_,_⟩:=DataW.trod_int Tryd.underlying3 g1
 obtain ⟨z2,q2,_,_⟩:=DataW.trod_int Tryd.underlying3 g2
 obtain ⟨z3,q3,_,_⟩:=DataW.trod_int Tryd.underlying3 g3
 simp at q0 q1 q2 q3
 obtain ⟨sa,sc,ls,e4,h4⟩:=list_of_trod g4
 obtain ⟨ia,ic,li,e5,h5⟩:=list_of_trod g5
 exact ⟨sa,sc,ia,ic,⟨z0,z1,z2,z3,ls,li⟩,by rw [q0,q1,q2,q3,e4,e5],⟨h4,h5⟩,w0⟩
end

end Go.Proofs.YtfaggdkiffhdbaaDoor
