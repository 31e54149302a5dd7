/- SameRec of the reckoning. -/
import Derived.Test.YtfaggdkiffhdbaaGreatDoorRecC
namespace Go.Proofs.YtfaggdkiffhdbaaGreatDoor
open Go.RowKit Go.Maps

set_option maxHeartbeats 4000000 in
theorem rSameC (N : Nat) (r q : Rc) (sc ic sc2 ic2 : Nat) (sa ia sa2 ia2 : Option Addr) (w : World) (hN : N≤w.heap.size) (h1 : NumsL N w sa sc r.says) (h2 : NumsL N w ia ic r.img) (h3 : NumsL N w sa2 sc2 q.says) (h4 : NumsL N w ia2 ic2 q.img) :
  Calls Tryz.prog 17 #[.agg #[.int .i64 r.kind,.int .i64 r.co,.int .i64 r.ep,.int .i64 r.pl,.slice sa r.says.length sc,.slice ia r.img.length ic],.agg #[.int .i64 q.kind,.int .i64 q.co,.int .i64 q.ep,.int .i64 q.pl,.slice sa2 q.says.length sc2,.slice ia2 q.img.length ic2]] w fun e w' => e=.returned (.bool (rcEq r q))∧Below w.heap.size w w':=by
 obtain ⟨W,hW,HB,HX⟩:=two_rbox w r.kind r.co r.ep r.pl q.kind q.co q.ep q.pl (.slice sa r.says.length sc) (.slice ia r.img.length ic) (.slice sa2 q.says.length sc2) (.slice ia2 q.img.length ic2)
 have HE1 : Hid (Calls Tryz.prog 27 #[.slice sa r.says.length sc,.slice sa2 q.says.length sc2] W fun e w' => e=.returned (.bool (decide (r.says=q.says)))∧Below W.heap.size W w'):=eqList W (h1.below (HB.out.mono hN)) (h3.below (HB.out.mono hN))
 have hNW : N≤W.heap.size:=Nat.le_trans hN HB.out.size
 have HE2 : Hid (∀ wk,Below W.heap.size W wk→Calls Tryz.prog 27 #[.slice ia r.img.length ic,.slice ia2 q.img.length ic2] wk fun e w' => e=.returned (.bool (decide (r.img=q.img)))∧Below wk.heap.size wk w'):=fun wk hk => eqList wk ((h2.below (HB.out.mono hN)).below (hk.mono hNW)) ((h4.below (HB.out.mono hN)).below (hk.mono hNW))
 have HQ : Hid (rcEq r q=(decide (r.kind=q.kind) && decide (r.co=q.co) && decide (r.ep=q.ep) && decide (r.pl=q.pl) && decide (r.says=q.says) && decide (r.img=q.img))):=by show _=_; rfl
 obtain ⟨⟨i0,i1,i2,i3,i4,i5⟩,j0,j1,j2,j3,j4,j5⟩:=HX.out W (Below.refl _ _)
 clear h1 h2 h3 h4
 generalize rcEq r q=bq at *
 generalize hbs : decide (r.says=q.says)=bs at *
 generalize hbi : decide (r.img=q.img)=bi at *
 clear hbs hbi
 generalize r.says.length=n1 at *
 generalize r.img.length=n2 at *
 generalize q.says.length=n3 at *
 generalize q.img.length=n4 at *
 generalize r.kind=k1 at *
 generalize r.co=c1 at *
 generalize r.ep=e1 at *
 generalize r.pl=p1 at *
 generalize q.kind=k2 at *
 generalize q.co=c2 at *
 generalize q.ep=e2 at *
 generalize q.pl=p2 at *
 by_cases hk : k1=k2
 ·by_cases hc : c1=c2
  ·by_cases he : e1=e2
   ·by_cases hp : p1=p2
    ·have hq : Hid (bq=(bs && bi)):=by show _=_; rw [HQ.out]; simp [hk,hc,he,hp]
     have b1 : (k1 == k2)=true:=by simpa using hk
     have b2 : (c1 == c2)=true:=by simpa using hc
     have b3 : (e1 == e2)=true:=by simpa using he
     have b4 : (p1 == p2)=true:=by simpa using hp
     clear hk hc he hp HQ
     cases bs with
     | true =>
      go_enter Tryz.func17,Tryz.ntmps17
      go_upto_region 1 with (fail)
      try skip
      try rw [hW]
      go_wp2_with (first
       | (go_at_call 27; refine (HE2.out _ hb6).mono ?_; rintro e w7 ⟨rfl,hb7⟩)
       | (go_at_call 27; refine HE1.out.mono ?_; rintro e w6 ⟨rfl,hb6⟩; obtain ⟨⟨_,_,_,_,_,y5⟩,_,_,_,_,_,z5⟩:=HX.out _ hb6))
      go_ret
      exact ⟨ret_bool (by rw [hq.out]; simp),below_step HB.out (below_step hb6 hb7)⟩
     | false =>
      go_enter Tryz.func17,Tryz.ntmps17
      go_upto_region 1 with (fail)
      try skip
      try rw [hW]
      go_wp2_with (go_at_call 27; refine HE1.out.mono ?_; rintro e w6 ⟨rfl,hb6⟩)
      go_ret
      exact ⟨ret_bool (by rw [hq.out]; rfl),below_step HB.out hb6⟩
    ·have hq : Hid (bq=false):=by show _=_; rw [HQ.out]; simp [hp]
     have b1 : (k1 == k2)=true:=by simpa using hk
     have b2 : (c1 == c2)=true:=by simpa using hc
     have b3 : (e1 == e2)=true:=by simpa using he
     have b4 : (p1 == p2)=false:=by simpa using hp
     clear hk hc he hp HQ
     go_enter Tryz.func17,Tryz.ntmps17
     go_upto_region 1 with (fail)
     try skip
     try rw [hW]
     go_wp2
     go_ret
     exact ⟨ret_bool hq.out.symm,HB.out⟩
   ·have hq : Hid (bq=false):=by show _=_; rw [HQ.out]; simp [he]
    have b1 : (k1 == k2)=true:=by simpa using hk
    have b2 : (c1 == c2)=true:=by simpa using hc
    have b3 : (e1 == e2)=false:=by simpa using he
    clear hk hc he HQ
    go_enter Tryz.func17,Tryz.ntmps17
    go_upto_region 1 with (fail)
    try skip
    try rw [hW]
    go_wp2
    go_ret
    exact ⟨ret_bool hq.out.symm,HB.out⟩
  ·have hq : Hid (bq=false):=by show _=_; rw [HQ.out]; simp [hc]
   have b1 : (k1 == k2)=true:=by simpa using hk
   have b2 : (c1 == c2)=false:=by simpa using hc
   clear hk hc HQ
   go_enter Tryz.func17,Tryz.ntmps17
   go_upto_region 1 with (fail)
   try skip
   try rw [hW]
   go_wp2
   go_ret
   exact ⟨ret_bool hq.out.symm,HB.out⟩
 ·have hq : Hid (bq=false):=by show _=_; rw [HQ.out]; simp [hk]
  have b1 : (k1 == k2)=false:=by simpa using hk
  clear hk HQ
  go_enter Tryz.func17,Tryz.ntmps17
  go_upto_region 1 with (fail)
  try skip
  try rw [hW]
  go_wp2
  go_ret
  exact ⟨ret_bool hq.out.symm,HB.out⟩
end Go.Proofs.YtfaggdkiffhdbaaGreatDoor
