/- DiskSays: a disk is checked, held against another, put on, synced, crashed, recovered as the reckoning says: the law over memory. -/
import Derived.Test.YtfaggdkiffhdbaaGreatDoorDiskFiled
import Derived.Test.YtfaggdkiffhdbaaGreatDoorDiskRef4
import Derived.Test.YtfaggdkiffhdbaaGreatDoorDiskRef6
namespace Go.Proofs.YtfaggdkiffhdbaaGreatDoor
open Go.RowKit Go.Maps

/-- A disk is laid into a box. -/
theorem boxed (w : World) (d : Dk) (sa wa : Option Addr) (sc wc : Nat) (hd : DiskIn w.heap.size w sa sc wa wc d) : ∃ W X,w.alloc (.cells #[.slice sa d.safe.length sc,.slice wa d.wait.length wc] 24)=W∧w.heap.size=X∧Hid (Below w.heap.size w W) ∧
  Hid (∀ wk,Below W.heap.size W wk→BoxD X wk (.slice sa d.safe.length sc) (.slice wa d.wait.length wc)∧DiskIn wk.heap.size wk sa sc wa wc d):=by
 have hb:=below_alloc w (.cells #[.slice sa d.safe.length sc,.slice wa d.wait.length wc] 24)
 have h1 : BoxD w.heap.size (w.alloc (.cells #[.slice sa d.safe.length sc,.slice wa d.wait.length wc] 24)) _ _:=heap_alloc_new w _
 generalize w.alloc (.cells #[.slice sa d.safe.length sc,.slice wa d.wait.length wc] 24)=W at *
 exact ⟨W,_,rfl,rfl,hb,fun wk hk => ⟨h1.below hk,(hd.below (below_step hb hk)).up (below_step hb hk).size⟩⟩

/-- Three boxes: a disk,a record,a disk. -/
theorem dstart (w : World) (sv wv : Value) (k c e p : Int) (sy im xv yv : Value) : ∃ W,((w.alloc (.cells #[sv,wv] 24)).alloc (.cells #[.int .i64 k,.int .i64 c,.int .i64 e,.int .i64 p,sy,im] 27)).alloc (.cells #[xv,yv] 24)=W∧Hid (Below w.heap.size w W) ∧
  Hid (∀ wk,Below W.heap.size W wk→BoxD w.heap.size wk sv wv∧Box6 (w.heap.size + 1) wk k c e p sy im∧BoxD (w.heap.size + 2) wk xv yv∧Below w.heap.size w wk):=by
 have b0:=below_alloc w (.cells #[sv,wv] 24)
 have h0 : BoxD w.heap.size (w.alloc (.cells #[sv,wv] 24)) sv wv:=heap_alloc_new w _
 have hs : (w.alloc (.cells #[sv,wv] 24)).heap.size=w.heap.size + 1:=by simp
 generalize w.alloc (.cells #[sv,wv] 24)=V at *
 have b1:=below_alloc V (.cells #[.int .i64 k,.int .i64 c,.int .i64 e,.int .i64 p,sy,im] 27)
 have h1 : Box6 V.heap.size (V.alloc (.cells #[.int .i64 k,.int .i64 c,.int .i64 e,.int .i64 p,sy,im] 27)) k c e p sy im:=heap_alloc_new V _
 have hs1 : (V.alloc (.cells #[.int .i64 k,.int .i64 c,.int .i64 e,.int .i64 p,sy,im] 27)).heap.size=w.heap.size + 2:=by simp [hs]
 rw [hs] at h1
 have h01:=h0.below b1
 generalize V.alloc (.cells #[.int .i64 k,.int .i64 c,.int .i64 e,.int .i64 p,sy,im] 27)=U at *
 have b2:=below_alloc U (.cells #[xv,yv] 24)
 have h2 : BoxD U.heap.size (U.alloc (.cells #[xv,yv] 24)) xv yv:=heap_alloc_new U _
 rw [hs1] at h2
 have h02:=h01.below b2
 have h12:=h1.keep (b2.block _ h1.lt)
 generalize U.alloc (.cells #[xv,yv] 24)=W at *
 have hb : Below w.heap.size w W:=below_step (below_step b0 b1) b2
 exact ⟨W,rfl,hb,fun wk hk => ⟨h02.below hk,h12.keep (hk.block _ h12.lt),h2.below hk,below_step hb hk⟩⟩

theorem sameE (wk : World) (d x : Dk) (h : d=x) (sa wa sb wb : Option Addr) (sc wc sbc wbc : Nat) (h1 : DiskIn wk.heap.size wk sa sc wa wc d) (h2 : DiskIn wk.heap.size wk sb sbc wb wbc x) :
  Calls Tryz.prog 12 #[.agg #[.slice sa d.safe.length sc,.slice wa d.wait.length wc],.agg #[.slice sb x.safe.length sbc,.slice wb x.wait.length wbc]] wk fun e w' => e=.returned (.bool true)∧Below wk.heap.size wk w':=by
 have:=rSameDisk wk.heap.size d x sa wa sb wb sc wc sbc wbc wk (Nat.le_refl _) h1 h2
 rw [dkEq_iff.2 h] at this
 exact this
theorem same0 (wk : World) (d : Dk) (h : d=dk0) (sa wa : Option Addr) (sc wc : Nat) (h1 : DiskIn wk.heap.size wk sa sc wa wc d) :
  Calls Tryz.prog 12 #[.agg #[.slice sa d.safe.length sc,.slice wa d.wait.length wc],.agg #[.slice none 0 0,.slice none 0 0]] wk fun e w' => e=.returned (.bool true)∧Below wk.heap.size wk w' :=
 sameE wk d dk0 h sa wa none none sc wc 0 0 h1 (DiskIn.none _ _)

set_option maxRecDepth 20000 in
set_option maxHeartbeats 4000000 in
theorem ds_core (d x pd sd cd qd : Dk) (ql : List Rc) (r : Rc) (n er pe se ce qe : Int) (b : Bool) (sa wa xa ya ra ia : Option Addr) (sc wc xc yc rc ic : Nat) (w W : World)
  (HW : Hid (((w.alloc (.cells #[.slice sa d.safe.length sc,.slice wa d.wait.length wc] 24)).alloc (.cells #[.int .i64 r.kind,.int .i64 r.co,.int .i64 r.ep,.int .i64 r.pl,.slice ra r.says.length rc,.slice ia r.img.length ic] 27)).alloc (.cells #[.slice xa x.safe.length xc,.slice ya x.wait.length yc] 24)=W))
  (HX : Hid (∀ wk,Below W.heap.size W wk→BoxD w.heap.size wk (.slice sa d.safe.length sc) (.slice wa d.wait.length wc)∧Box6 (w.heap.size + 1) wk r.kind r.co r.ep r.pl (.slice ra r.says.length rc) (.slice ia r.img.length ic)∧BoxD (w.heap.size + 2) wk (.slice xa x.safe.length xc) (.slice ya x.wait.length yc)∧Below w.heap.size w wk))
  (HFl : Hid (∀ wk,Below w.heap.size w wk→Calls Tryz.prog 9 #[] wk fun e w' => e=.returned (.bool true)∧Below wk.heap.size wk w'))
  (HPt : Hid (∀ wk,Below w.heap.size w wk→Calls Tryz.prog 4 #[.agg #[.slice sa d.safe.length sc,.slice wa d.wait.length wc],.agg #[.int .i64 r.kind,.int .i64 r.co,.int .i64 r.ep,.int .i64 r.pl,.slice ra r.says.length rc,.slice ia r.img.length ic]] wk (DkK wk pd pe)))
  (HSy : Hid (∀ wk,Below w.heap.size w wk→Calls Tryz.prog 5 #[.agg #[.slice sa d.safe.length sc,.slice wa d.wait.length wc]] wk (DkK wk sd se)))
  (HCr : Hid (∀ wk,Below w.heap.size w wk→Calls Tryz.prog 6 #[.agg #[.slice sa d.safe.length sc,.slice wa d.wait.length wc],.int .i64 n] wk (DkK wk cd ce)))
  (HRc : Hid (∀ wk,Below w.heap.size w wk→Calls Tryz.prog 7 #[.agg #[.slice sa d.safe.length sc,.slice wa d.wait.length wc]] wk (DkRK wk qd ql qe)))
  (HCk : Hid (∀ wk,Below w.heap.size w wk→Calls Tryz.prog 8 #[.agg #[.slice sa d.safe.length sc,.slice wa d.wait.length wc]] wk fun e w' => e=.returned (.int .i64 er)∧Below wk.heap.size wk w'))
  (HdC : Hid (∀ wk,Below w.heap.size w wk→Calls Tryz.prog 10 #[.agg #[.slice sa d.safe.length sc,.slice wa d.wait.length wc]] wk fun e w' => e=.returned (.int .i64 er)∧Below wk.heap.size wk w'))
  (HSm : Hid (∀ wk,Below w.heap.size w wk→Calls Tryz.prog 11 #[.agg #[.slice sa d.safe.length sc,.slice wa d.wait.length wc],.agg #[.slice xa x.safe.length xc,.slice ya x.wait.length yc]] wk fun e w' => e=.returned (.bool b)∧Below wk.heap.size wk w'))
  (HSr : Hid (∀ wk,Below w.heap.size w wk→Calls Tryz.prog 12 #[.agg #[.slice sa d.safe.length sc,.slice wa d.wait.length wc],.agg #[.slice xa x.safe.length xc,.slice ya x.wait.length yc]] wk fun e w' => e=.returned (.bool b)∧Below wk.heap.size wk w'))
  (HBad : Hid (¬ er=0→(pe=er∧se=er∧ce=er∧qe=er)∧pd=dk0∧sd=dk0∧cd=dk0∧qd=dk0∧ql=[]))
  (HPo : Hid (er=0→∀ wk,Below w.heap.size w wk→Calls Tryz.prog 13 #[.agg #[.slice sa d.safe.length sc,.slice wa d.wait.length wc],.agg #[.int .i64 r.kind,.int .i64 r.co,.int .i64 r.ep,.int .i64 r.pl,.slice ra r.says.length rc,.slice ia r.img.length ic]] wk (DkL wk pd pe)))
  (HSn : Hid (er=0→∀ wk,Below w.heap.size w wk→Calls Tryz.prog 14 #[.agg #[.slice sa d.safe.length sc,.slice wa d.wait.length wc]] wk (DkL wk sd se)))
  (HRv : Hid (er=0→∀ wk,Below w.heap.size w wk→Calls Tryz.prog 15 #[.agg #[.slice sa d.safe.length sc,.slice wa d.wait.length wc]] wk (DkRL wk qd ql)))
  (HQ0 : Hid (er=0→qe=0))
  (HC3 : Hid (er=0→(n < 0∨(d.wait.length : Int) < n)→ce=3∧cd=dk0))
  (HC0 : Hid (er=0→¬ (n < 0∨(d.wait.length : Int) < n)→ce=0∧∃ m : Nat,n=m∧m≤d.wait.length∧cd=⟨d.safe,d.wait.take m⟩∧(∀ wk,(Instr.slice 22 (.slice wa d.wait.length wc) none (some (.int .i64 (m : Nat))) none).run Tryz.prog wk=.ok (.slice wa m wc) wk)∧∀ wk,Below w.heap.size w wk→DiskIn wk.heap.size wk sa sc wa wc ⟨d.safe,d.wait.take m⟩)) :
  Calls Tryz.prog 3 #[.agg #[.slice sa d.safe.length sc,.slice wa d.wait.length wc],.agg #[.int .i64 r.kind,.int .i64 r.co,.int .i64 r.ep,.int .i64 r.pl,.slice ra r.says.length rc,.slice ia r.img.length ic],.int .i64 n,.agg #[.slice xa x.safe.length xc,.slice ya x.wait.length yc]] w fun e w' => e=.returned (.bool true)∧Hid (Below w.heap.size w w'):=by
 have hbb : (b != b)=false:=by simp
 have hee : (er != er)=false:=by simp
 have HE : Hid (∀ wk,Below W.heap.size W wk→Below w.heap.size w wk):=fun wk hk => (HX.out wk hk).2.2.2
 go_enter Tryz.func3,Tryz.ntmps3
 go_upto_region 1 with (fail)
 try rw [HW.out]
 have hW:=(Below.refl W.heap.size W)
 obtain ⟨i0,i1,_⟩:=(HX.out W hW).1.at
 obtain ⟨j0,j1,j2,j3,j4,j5,_⟩:=(HX.out W hW).2.1.at
 go_upto_region 2 with (go_at_call 4; refine (HPt.out W (HE.out W hW)).mono ?_; rintro e w1 ⟨s1,c1,t1,e1,rfl,HD,HB⟩)
 obtain ⟨W1,X1,hW1,hX1,HK,HZ1⟩:=boxed w1 pd s1 t1 c1 e1 HD.out.in
 try rw [hW1]
 try rw [hX1]
 have HL1 : Hid (Below W.heap.size W W1):=below_step HB.out HK.out
 clear hW1 hX1 HK HD HB i0 i1 j0 j1 j2 j3 j4 j5
 obtain ⟨i0,i1,_⟩:=(HX.out W1 HL1.out).1.at
 go_upto_region 3 with (go_at_call 5; refine (HSy.out W1 (HE.out W1 HL1.out)).mono ?_; rintro e w2 ⟨s2,c2,t2,e2,rfl,HD,HB⟩)
 obtain ⟨W2,X2,hW2,hX2,HK,HZ2⟩:=boxed w2 sd s2 t2 c2 e2 HD.out.in
 try rw [hW2]
 try rw [hX2]
 have HL12 : Hid (Below W1.heap.size W1 W2):=below_step HB.out HK.out
 have HL2 : Hid (Below W.heap.size W W2):=below_step HL1.out HL12.out
 clear hW2 hX2 HK HD HB i0 i1
 obtain ⟨i0,i1,_⟩:=(HX.out W2 HL2.out).1.at
 go_upto_region 4 with (go_at_call 6; refine (HCr.out W2 (HE.out W2 HL2.out)).mono ?_; rintro e w3 ⟨s3,c3,t3,e3,rfl,HD,HB⟩)
 obtain ⟨W3,X3,hW3,hX3,HK,HZ3⟩:=boxed w3 cd s3 t3 c3 e3 HD.out.in
 try rw [hW3]
 try rw [hX3]
 have HL23 : Hid (Below W2.heap.size W2 W3):=below_step HB.out HK.out
 have HL3 : Hid (Below W.heap.size W W3):=below_step HL2.out HL23.out
 clear hW3 hX3 HK HD HB i0 i1
 obtain ⟨i0,i1,_⟩:=(HX.out W3 HL3.out).1.at
 go_upto_region 5 with (go_at_call 7; refine (HRc.out W3 (HE.out W3 HL3.out)).mono ?_; rintro e w4 ⟨s4,c4,t4,e4,la,lc,R,rfl,HD,HR,HRm,HB⟩)
 obtain ⟨W4,X4,hW4,hX4,HK,HZ4⟩:=boxed w4 qd s4 t4 c4 e4 HD.out.in
 try rw [hW4]
 try rw [hX4]
 have HL34 : Hid (Below W3.heap.size W3 W4):=below_step HB.out HK.out
 have HL4 : Hid (Below W.heap.size W W4):=below_step HL3.out HL34.out
 have HR4 : Hid (∃ C,RecRow C W4 (.slice la ql.length lc) R):=(let ⟨C,h⟩:=HR.out; ⟨C,h.below HK.out⟩)
 clear hW4 hX4 HK HD HB HR i0 i1
 obtain ⟨i0,i1,_⟩:=(HX.out W4 HL4.out).1.at
 go_upto_region 6 with (go_at_call 8; refine (HCk.out W4 (HE.out W4 HL4.out)).mono ?_; rintro e w5 ⟨rfl,hb5⟩)
 go_upto_region 7 with (fail)
 obtain ⟨W6,X5,hW6,hX5,HK,HZ5⟩ : ∃ W X,w5.alloc (.cells #[.slice none 0 0,.slice none 0 0] 24)=W∧w5.heap.size=X∧Hid (Below w5.heap.size w5 W)∧Hid (∀ wk,Below W.heap.size W wk→BoxD X wk (.slice none 0 0) (.slice none 0 0)∧DiskIn wk.heap.size wk none 0 none 0 dk0):=boxed w5 dk0 none none 0 0 (DiskIn.none _ _)
 try rw [hW6]
 try rw [hX5]
 have HL46 : Hid (Below W4.heap.size W4 W6):=below_step hb5 HK.out
 have HL6 : Hid (Below W.heap.size W W6):=below_step HL4.out HL46.out
 have HU : Hid (∀ wk,Below W6.heap.size W6 wk→Below W.heap.size W wk):=fun wk hk => below_step HL6.out hk
 have HZ : Hid (∀ wk,Below W6.heap.size W6 wk→(BoxD X1 wk (.slice s1 pd.safe.length c1) (.slice t1 pd.wait.length e1)∧DiskIn wk.heap.size wk s1 c1 t1 e1 pd)∧(BoxD X2 wk (.slice s2 sd.safe.length c2) (.slice t2 sd.wait.length e2)∧DiskIn wk.heap.size wk s2 c2 t2 e2 sd)∧(BoxD X3 wk (.slice s3 cd.safe.length c3) (.slice t3 cd.wait.length e3)∧DiskIn wk.heap.size wk s3 c3 t3 e3 cd)∧(BoxD X4 wk (.slice s4 qd.safe.length c4) (.slice t4 qd.wait.length e4)∧DiskIn wk.heap.size wk s4 c4 t4 e4 qd)∧BoxD X5 wk (.slice none 0 0) (.slice none 0 0)∧RecsL wk.heap.size wk la lc ql):=fun wk hk => by
  have h4 : Below W4.heap.size W4 wk:=below_step HL46.out hk
  have h3 : Below W3.heap.size W3 wk:=below_step HL34.out h4
  have h2 : Below W2.heap.size W2 wk:=below_step HL23.out h3
  have h1 : Below W1.heap.size W1 wk:=below_step HL12.out h2
  refine ⟨HZ1.out wk h1,HZ2.out wk h2,HZ3.out wk h3,HZ4.out wk h4,(HZ5.out wk hk).1,?_⟩
  obtain ⟨C,h⟩:=HR4.out
  have:=(h.below h4).list
  rw [HRm.out] at this
  exact this
 clear hW6 hX5 HK HL46 HL34 HL23 HL12 HL1 HL2 HL3 HL4 HZ1 HZ2 HZ3 HZ4 HZ5 HR4 HRm hb5 i0 i1 HPt HSy HCr HRc HCk
 have HXs : Hid (∀ wk,Below W.heap.size W wk→wk.cell? ⟨w.heap.size,0,none⟩=some (.slice sa d.safe.length sc)∧wk.cell? ⟨w.heap.size,1,none⟩=some (.slice wa d.wait.length wc)∧wk.cell? ⟨w.heap.size + 2,0,none⟩=some (.slice xa x.safe.length xc)∧wk.cell? ⟨w.heap.size + 2,1,none⟩=some (.slice ya x.wait.length yc)):=fun wk hk => by
  obtain ⟨h1,_,h3,_⟩:=HX.out wk hk
  exact ⟨h1.at.1,h1.at.2.1,h3.at.1,h3.at.2.1⟩
 obtain ⟨i0,i1,l0,l1⟩:=HXs.out W6 HL6.out
 have hb6d : Below W6.heap.size W6 W6.drew:=(Below.refl _ _).drew
 have HEU : Hid (∀ wk,Below W6.heap.size W6 wk→Below w.heap.size w wk):=fun wk hk => HE.out wk (HU.out wk hk)
 go_region_held3 (fun w' => w'.cell? ⟨w.heap.size,0,none⟩=some (.slice sa d.safe.length sc)∧w'.cell? ⟨w.heap.size,1,none⟩=some (.slice wa d.wait.length wc)∧w'.cell? ⟨w.heap.size + 2,0,none⟩=some (.slice xa x.safe.length xc)∧w'.cell? ⟨w.heap.size + 2,1,none⟩=some (.slice ya x.wait.length yc))
  (first | exact HXs.out _ (HU.out _ hb6d) | exact HXs.out _ (HU.out _ hb10) | exact HXs.out _ (HU.out _ hb9) | exact HXs.out _ (HU.out _ hb8) | exact HXs.out _ (HU.out _ hb7))
  (first
   | (go_at_call 12; refine (HSr.out _ (HEU.out _ hb9)).mono ?_; rintro e w10 ⟨rfl,hb'⟩; have hb10:=below_step hb9 hb'; clear hb')
   | (go_at_call 11; refine (HSm.out _ (HEU.out _ hb8)).mono ?_; rintro e w9 ⟨rfl,hb'⟩; have hb9:=below_step hb8 hb'; clear hb')
   | (go_at_call 10; refine (HdC.out _ (HEU.out _ hb7)).mono ?_; rintro e w8 ⟨rfl,hb'⟩; have hb8:=below_step hb7 hb'; clear hb')
   | (go_at_call 9; refine (HFl.out _ (HEU.out _ hb6d)).mono ?_; rintro e w7 ⟨rfl,hb'⟩; have hb7:=below_step hb6d hb'; clear hb'))
 all_goals
  clear hb6d hb7 hb8 hb9 i0 i1 l0 l1 HFl HdC HSm HSr
  by_cases h0 : er=0
  ·subst h0
   obtain rfl:=HQ0.out rfl
   clear HBad HQ0
   obtain ⟨i0,i1,_⟩:=(HX.out w10 (HU.out _ hb10)).1.at
   obtain ⟨j0,j1,j2,j3,j4,j5,_⟩:=(HX.out w10 (HU.out _ hb10)).2.1.at
   go_upto_region 12 with (go_at_call 13; refine (HPo.out (by trivial) w10 (HEU.out _ hb10)).mono ?_; rintro e w11 ⟨s6,c6,t6,e6,rfl,HD,HB⟩)
   obtain ⟨W11,X6,hW6,hX6,HK,HZ6⟩:=boxed w11 pd s6 t6 c6 e6 HD.out
   try rw [hW6]
   try rw [hX6]
   have hb11 : Below W6.heap.size W6 W11:=below_step hb10 (below_step HB.out HK.out)
   clear hW6 hX6 HK HD HB i0 i1 j0 j1 j2 j3 j4 j5 hb10 HPo
   obtain ⟨i0,i1,_⟩:=(HX.out W11 (HU.out _ hb11)).1.at
   go_upto_region 13 with (go_at_call 14; refine (HSn.out (by trivial) W11 (HEU.out _ hb11)).mono ?_; rintro e w12 ⟨s7,c7,t7,e7,rfl,HD,HB⟩)
   obtain ⟨W12,X7,hW7,hX7,HK,HZ7⟩:=boxed w12 sd s7 t7 c7 e7 HD.out
   try rw [hW7]
   try rw [hX7]
   have HL112 : Hid (Below W11.heap.size W11 W12):=below_step HB.out HK.out
   have hb12 : Below W6.heap.size W6 W12:=below_step hb11 HL112.out
   clear hW7 hX7 HK HD HB i0 i1 hb11 HSn
   obtain ⟨i0,i1,_⟩:=(HX.out W12 (HU.out _ hb12)).1.at
   go_upto_region 14 with (go_at_call 15; refine (HRv.out (by trivial) W12 (HEU.out _ hb12)).mono ?_; rintro e w13 ⟨s8,c8,t8,e8,lb,lbc,R2,rfl,HD,HR,HRm,HB⟩)
   obtain ⟨W13,X8,hW8,hX8,HK,HZ8⟩:=boxed w13 qd s8 t8 c8 e8 HD.out
   try rw [hW8]
   try rw [hX8]
   have HL123 : Hid (Below W12.heap.size W12 W13):=below_step HB.out HK.out
   have hb13 : Below W6.heap.size W6 W13:=below_step hb12 HL123.out
   have HR13 : Hid (∃ C,RecRow C W13 (.slice lb ql.length lbc) R2):=(let ⟨C,h⟩:=HR.out; ⟨C,h.below HK.out⟩)
   have HY : Hid (∀ wk,Below W13.heap.size W13 wk→(BoxD X6 wk (.slice s6 pd.safe.length c6) (.slice t6 pd.wait.length e6)∧DiskIn wk.heap.size wk s6 c6 t6 e6 pd)∧(BoxD X7 wk (.slice s7 sd.safe.length c7) (.slice t7 sd.wait.length e7)∧DiskIn wk.heap.size wk s7 c7 t7 e7 sd)∧(BoxD X8 wk (.slice s8 qd.safe.length c8) (.slice t8 qd.wait.length e8)∧DiskIn wk.heap.size wk s8 c8 t8 e8 qd)∧RecsL wk.heap.size wk lb lbc ql):=fun wk hk => by
    have h2 : Below W12.heap.size W12 wk:=below_step HL123.out hk
    refine ⟨HZ6.out wk (below_step HL112.out h2),HZ7.out wk h2,HZ8.out wk hk,?_⟩
    obtain ⟨C,h⟩:=HR13.out
    have:=(h.below hk).list
    rw [HRm.out] at this
    exact this
   have HH13 : Hid (Below W6.heap.size W6 W13):=hb13
   have HV : Hid (∀ wk,Below W13.heap.size W13 wk→Below W6.heap.size W6 wk):=fun wk hk => below_step HH13.out hk
   have HEq : Hid (∀ wk,Below W13.heap.size W13 wk→Calls Tryz.prog 16 #[.slice la ql.length lc,.slice lb ql.length lbc,.func (.func 17) #[] #[]] wk fun e w' => e=.returned (.bool true)∧Below wk.heap.size wk w'):=fun wk hk => by
    have:=eqRecsW wk.heap.size la lb lc lbc ql ql wk (Nat.le_refl _) (HZ.out wk (HV.out wk hk)).2.2.2.2.2 (HY.out wk hk).2.2.2
    rw [eqRs_iff.2 rfl] at this
    exact this
   clear hW8 hX8 HK HD HB HR HRm HR13 i0 i1 hb12 hb13 HRv HL112 HL123 HZ6 HZ7 HZ8
   have hb13:=Below.refl W13.heap.size W13
   obtain ⟨i0,i1,_⟩:=(HZ.out W13 (HV.out _ hb13)).1.1.at
   obtain ⟨l0,l1,_⟩:=(HY.out W13 hb13).1.1.at
   go_upto_region 16 with (first
    | (go_at_call 16; refine (HEq.out _ hb16).mono ?_; rintro e w17 ⟨rfl,hb'⟩; have hb17:=below_step hb16 hb'; clear hb')
    | (go_at_call 12; refine (sameE _ qd qd rfl _ _ _ _ _ _ _ _ (HZ.out _ (HV.out _ hb15)).2.2.2.1.2 (HY.out _ hb15).2.2.1.2).mono ?_; rintro e w16 ⟨rfl,hb'⟩; have hb16:=below_step hb15 hb'; clear hb')
    | (go_at_call 12; refine (sameE _ sd sd rfl _ _ _ _ _ _ _ _ (HZ.out _ (HV.out _ hb14)).2.1.2 (HY.out _ hb14).2.1.2).mono ?_; rintro e w15 ⟨rfl,hb'⟩; have hb15:=below_step hb14 hb'; clear hb'; obtain ⟨p0,p1,_⟩:=(HZ.out _ (HV.out _ hb15)).2.2.2.1.1.at; obtain ⟨q0,q1,_⟩:=(HY.out _ hb15).2.2.1.1.at)
    | (go_at_call 12; refine (sameE _ pd pd rfl _ _ _ _ _ _ _ _ (HZ.out _ (HV.out _ hb13)).1.2 (HY.out _ hb13).1.2).mono ?_; rintro e w14 ⟨rfl,hb'⟩; have hb14:=below_step hb13 hb'; clear hb'; obtain ⟨m0,m1,_⟩:=(HZ.out _ (HV.out _ hb14)).2.1.1.at; obtain ⟨o0,o1,_⟩:=(HY.out _ hb14).2.1.1.at))
   have hb18 : Below W6.heap.size W6 w17:=HV.out _ hb17
   clear i0 i1 l0 l1 p0 p1 q0 q1 m0 m1 o0 o1 hb13 hb14 hb15 hb16 hb17 HEq HY HV HH13
   obtain ⟨i0,i1,_⟩:=(HX.out w17 (HU.out _ hb18)).1.at
   by_cases hn1 : n < 0
   ·obtain ⟨rfl,hc0⟩:=HC3.out (by trivial) (Or.inl hn1)
    have Hc : Hid (cd=dk0):=hc0
    clear hc0 HC3 HC0
    obtain ⟨k0,k1,_⟩:=(HZ.out w17 hb18).2.2.1.1.at
    obtain ⟨l0,l1,_⟩:=(HZ.out w17 hb18).2.2.2.2.1.at
    go_wp2_with (go_at_call 12; refine (same0 _ cd Hc.out _ _ _ _ (HZ.out _ hb18).2.2.1.2).mono ?_; rintro e w18 ⟨rfl,hb'⟩; have hb19:=below_step hb18 hb')
    go_ret
    exact ⟨rfl,HEU.out _ hb19⟩
   ·by_cases hn2 : (d.wait.length : Int) < n
    ·obtain ⟨rfl,hc0⟩:=HC3.out (by trivial) (Or.inr hn2)
     have Hc : Hid (cd=dk0):=hc0
     clear hc0 HC3 HC0
     obtain ⟨k0,k1,_⟩:=(HZ.out w17 hb18).2.2.1.1.at
     obtain ⟨l0,l1,_⟩:=(HZ.out w17 hb18).2.2.2.2.1.at
     go_wp2_with (go_at_call 12; refine (same0 _ cd Hc.out _ _ _ _ (HZ.out _ hb18).2.2.1.2).mono ?_; rintro e w18 ⟨rfl,hb'⟩; have hb19:=below_step hb18 hb')
     go_ret
     exact ⟨rfl,HEU.out _ hb19⟩
    ·obtain ⟨rfl,m,rfl,hm,hcd,hsl,hdi⟩:=HC0.out (by trivial) (by omega)
     have HSf : Hid (∀ wk,Below W6.heap.size W6 wk→Calls Tryz.prog 12 #[.agg #[.slice s3 cd.safe.length c3,.slice t3 cd.wait.length e3],.agg #[.slice sa d.safe.length sc,.slice wa m wc]] wk fun e w' => e=.returned (.bool true)∧Below wk.heap.size wk w'):=fun wk hk => by
      have:=sameE wk cd ⟨d.safe,d.wait.take m⟩ hcd s3 t3 sa wa c3 e3 sc wc (HZ.out wk hk).2.2.1.2 (hdi wk (HEU.out wk hk))
      rw [show (Dk.mk d.safe (d.wait.take m)).wait.length=m by simp only [List.length_take]; omega] at this
      exact this
     have HK3 : Hid (∀ wk,Below W6.heap.size W6 wk→wk.cell? ⟨w.heap.size,0,none⟩=some (.slice sa d.safe.length sc)∧wk.cell? ⟨w.heap.size,1,none⟩=some (.slice wa d.wait.length wc)∧wk.cell? ⟨X3,0,none⟩=some (.slice s3 cd.safe.length c3)∧wk.cell? ⟨X3,1,none⟩=some (.slice t3 cd.wait.length e3)):=fun wk hk => by
      have h1:=(HX.out wk (HU.out wk hk)).1.at
      have h3:=(HZ.out wk hk).2.2.1.1.at
      exact ⟨h1.1,h1.2.1,h3.1,h3.2.1⟩
     clear hcd hdi HC3 HC0
     have hb18d : Below W6.heap.size W6 w17.drew:=hb18.drew
     obtain ⟨_,_,k0,k1⟩:=HK3.out w17 hb18
     go_upto_region 18 with (fail)
     go_region_held3 (fun w' => w'.cell? ⟨w.heap.size,0,none⟩=some (.slice sa d.safe.length sc)∧w'.cell? ⟨w.heap.size,1,none⟩=some (.slice wa d.wait.length wc)∧w'.cell? ⟨X3,0,none⟩=some (.slice s3 cd.safe.length c3)∧w'.cell? ⟨X3,1,none⟩=some (.slice t3 cd.wait.length e3))
      (first | exact HK3.out _ hb18d | exact HK3.out _ hb19)
      (first
       | (go_at_call 12; refine (HSf.out _ hb18d).mono ?_; rintro e w18 ⟨rfl,hb'⟩; have hb19:=below_step hb18d hb'; clear hb'))
     all_goals
      go_wp2_with (fail)
      go_ret
      exact ⟨rfl,HEU.out _ hb19⟩
  ·have hne : (er != 0)=true:=by simpa using h0
   obtain ⟨⟨rfl,rfl,rfl,rfl⟩,hp0,hs0,hc0,hq0,rfl⟩:=HBad.out h0
   have Hp : Hid (pd=dk0):=hp0
   have Hs : Hid (sd=dk0):=hs0
   have Hc : Hid (cd=dk0):=hc0
   have Hq : Hid (qd=dk0):=hq0
   clear hp0 hs0 hc0 hq0 h0 HBad HPo HSn HRv HQ0 HC3 HC0
   obtain ⟨i0,i1,_⟩:=(HZ.out w10 hb10).1.1.at
   obtain ⟨l0,l1,_⟩:=(HZ.out w10 hb10).2.2.2.2.1.at
   go_wp2_with (first
    | (go_at_call 12; refine (same0 _ qd Hq.out _ _ _ _ (HZ.out _ hb13).2.2.2.1.2).mono ?_; rintro e w14 ⟨rfl,hb'⟩; have hb14:=below_step hb13 hb'; clear hb')
    | (go_at_call 12; refine (same0 _ cd Hc.out _ _ _ _ (HZ.out _ hb12).2.2.1.2).mono ?_; rintro e w13 ⟨rfl,hb'⟩; have hb13:=below_step hb12 hb'; clear hb'; obtain ⟨p0,p1,_⟩:=(HZ.out _ hb13).2.2.2.1.1.at; obtain ⟨q0,q1,_⟩:=(HZ.out _ hb13).2.2.2.2.1.at)
    | (go_at_call 12; refine (same0 _ sd Hs.out _ _ _ _ (HZ.out _ hb11).2.1.2).mono ?_; rintro e w12 ⟨rfl,hb'⟩; have hb12:=below_step hb11 hb'; clear hb'; obtain ⟨n0,n1,_⟩:=(HZ.out _ hb12).2.2.1.1.at; obtain ⟨o0,o1,_⟩:=(HZ.out _ hb12).2.2.2.2.1.at)
    | (go_at_call 12; refine (same0 _ pd Hp.out _ _ _ _ (HZ.out _ hb10).1.2).mono ?_; rintro e w11 ⟨rfl,hb'⟩; have hb11:=below_step hb10 hb'; clear hb'; obtain ⟨j0,j1,_⟩:=(HZ.out _ hb11).2.1.1.at; obtain ⟨k0,k1,_⟩:=(HZ.out _ hb11).2.2.2.2.1.at))
   go_ret
   exact ⟨rfl,HEU.out _ hb14⟩

end Go.Proofs.YtfaggdkiffhdbaaGreatDoor
