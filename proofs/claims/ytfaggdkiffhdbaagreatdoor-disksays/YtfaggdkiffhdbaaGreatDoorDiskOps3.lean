/- disk.Recover, Crash, by the program. -/
import Derived.Test.YtfaggdkiffhdbaaGreatDoorDiskOps2
namespace Go.Proofs.YtfaggdkiffhdbaaGreatDoor
open Go.RowKit Go.Maps

def allD (d : Dk) : List UInt8:=d.safe ++ d.wait
/-- What Recover answers. -/
def dRecR (d : Dk) : Int×Dk×List Rc:=if dErr d=0 then (0,⟨(allD d).take (dRead 120 (allD d)).2.1,[]⟩,(dRead 120 (allD d)).1) else (dErr d,dk0,[])

def DkRK (w : World) (d : Dk) (l : List Rc) (er : Int) (e : Ending) (w' : World) : Prop :=
 ∃ sa sc wa wc la lc L,e=.returned (.tuple #[.agg #[.slice sa d.safe.length sc,.slice wa d.wait.length wc],.slice la l.length lc,.int .i64 er])∧Hid (DiskT w' sa sc wa wc d)∧Hid (∃ C,RecRow C w' (.slice la l.length lc) L)∧Hid (L.map (·.1)=l)∧Hid (Below w.heap.size w w')
theorem DkRK.nothing {w w' : World} {er : Int} (hb : Below w.heap.size w w') : DkRK w dk0 [] er (.returned (.tuple #[.agg #[.slice none 0 0,.slice none 0 0],.slice none 0 0,.int .i64 er])) w' :=
 ⟨none,0,none,0,none,0,[],rfl,DiskT.none _,⟨0,RecRow.nil _ _⟩,rfl,hb⟩

theorem bl_max (za : Option Addr) (n zc m : Nat) (h1 : m≤zc) (h2 : zc≤9223372036854775807) (ha : za=none→zc=0) (wk : World) : (Instr.slice 22 (.slice za n zc) none (some (.int .i64 (m : Nat))) (some (.int .i64 (m : Nat)))).run Tryz.prog wk=.ok (.slice za m m) wk:=by
 have hs3:=zs5
 cases za with
 | none =>
  have h0:=ha rfl
  subst h0
  obtain rfl : m=0:=by omega
  simp [Instr.slice,Instr.sliceBounds,Instr.sliceBound,asIntOf,run_underlying Tryz.underlying22,hs3,go_sem]
 | some a =>
  have hm : ¬ m > zc:=by omega
  simp [Instr.slice,Instr.sliceBounds,Instr.sliceBound,asIntOf,run_underlying Tryz.underlying22,hs3,go_sem]
  omega
theorem BytesL.take {N : Nat} {w : World} {a : Option Addr} {c : Nat} {l : List UInt8} (h : BytesL N w a c l) (m k : Nat) (hm : m≤l.length) (hk : m≤k) (hc : k≤c) : BytesL N w a k (l.take m):=by
 refine ⟨by rw [List.length_take]; omega,by have:=h.big; omega,fun e => ?_,fun p hp => ?_⟩
 ·obtain ⟨h1,h2⟩:=h.nil e
  rw [h1]
  exact ⟨by simp,by omega⟩
 ·rcases h.one p hp with h1 | ⟨b,o,e,hb,hx⟩
  ·exact Or.inl (by rw [h1]; simp)
  ·refine Or.inr ⟨b,o,e,hb,fun i z hi => hx i z ?_⟩
   have hil:=(List.getElem?_eq_some_iff.1 hi).1
   rw [List.length_take] at hil
   rw [List.getElem?_take,if_pos (by omega)] at hi
   exact hi

set_option maxRecDepth 20000 in
set_option maxHeartbeats 4000000 in
/-- disk.Recover. -/
theorem dRecoverC (N M : Nat) (d : Dk) (sa wa : Option Addr) (sc wc : Nat) (w : World) (he : NEnv N w) (hN : N≤w.heap.size) (hM : M≤w.heap.size) (h : DiskIn M w sa sc wa wc d) (hs : DSmall d) :
  Calls Tryz.prog 7 #[.agg #[.slice sa d.safe.length sc,.slice wa d.wait.length wc]] w (DkRK w (dRecR d).2.1 (dRecR d).2.2 (dRecR d).1):=by
 obtain ⟨W,hW,HBW,HY⟩:=dtwo w (.slice sa d.safe.length sc) (.slice wa d.wait.length wc)
 have HCk : Hid (Calls Tryz.prog 10 #[.agg #[.slice sa d.safe.length sc,.slice wa d.wait.length wc]] W fun e w' => e=.returned (.int .i64 (dErr d))∧Below W.heap.size W w'):=dCheckC N M d sa wa sc wc W (he.below (HBW.out.mono hN)) (Nat.le_trans hN HBW.out.size) (Nat.le_trans hM HBW.out.size) (h.below (HBW.out.mono hM)) hs
 have HEn : Hid (∀ wk,Below W.heap.size W wk→NEnv N wk∧N≤wk.heap.size∧M≤wk.heap.size∧DiskIn M wk sa sc wa wc d):=fun wk hk => by
  have hb:=(HY.out wk hk).2.2
  exact ⟨he.below (hb.mono hN),Nat.le_trans hN hb.size,Nat.le_trans hM hb.size,h.below (hb.mono hM)⟩
 have HDz : Hid (dErr d=0→d.safe.length + d.wait.length≤60000):=fun h0 => (dErr_zero h0).1
 clear h hs he hN hM
 by_cases h0 : dErr d=0
 ·have hlen:=HDz.out h0
  have HRs : Hid (dRecR d=(0,⟨(allD d).take (dRead 120 (allD d)).2.1,[]⟩,(dRead 120 (allD d)).1)):=by show _=_; unfold dRecR; rw [if_pos h0]
  have hal : (allD d).length≤60000:=by unfold allD; rw [List.length_append]; omega
  have HCat : Hid (∀ wk B,Below W.heap.size W wk→wk.heap.size=B→Calls Tryz.prog 20 #[.slice (some ⟨B,0,none⟩) 2 2] (wk.alloc (.cells #[.slice sa d.safe.length sc,.slice wa d.wait.length wc] 22)) fun e w' => ∃ x c,e=.returned (.slice x (allD d).length c)∧Hid (∃ D,BS D w' (.slice x (allD d).length c) (allD d))∧Hid (Below wk.heap.size wk w')):=fun wk B hk hB => by
   obtain ⟨_,_,h3,h4⟩:=HEn.out wk hk
   exact concat2 M wk h3 sa wa sc wc d.safe d.wait h4.1 h4.2 (by omega) B hB
  have HRd : Hid (∀ x c wk,Below W.heap.size W wk→(∃ D,BS D wk (.slice x (allD d).length c) (allD d))→Calls Tryz.prog 21 #[.slice x (allD d).length c] wk fun e w' => ∃ la lc L,e=.returned (.tuple #[.slice la (dRead 120 (allD d)).1.length lc,.int .i64 ((dRead 120 (allD d)).2.1 : Nat),.int .i64 (dRead 120 (allD d)).2.2]) ∧
    Hid (RecRow wk.heap.size w' (.slice la (dRead 120 (allD d)).1.length lc) L)∧Hid (L.map (·.1)=(dRead 120 (allD d)).1)∧Hid (Below wk.heap.size wk w')):=fun x c wk hk ⟨D,hb⟩ => by
   obtain ⟨h1,h2,_⟩:=HEn.out wk hk
   exact dreadC N wk h1 h2 wk.heap.size (Nat.le_refl _) x c (allD d) (own_bytesL hb) hal
  have HSz : Hid ((dRead 120 (allD d)).2.1≤(allD d).length):=(dRead_many 120 _).2
  rw [h0] at HCk
  clear h0 HDz hlen
  generalize dRecR d=rs at *
  generalize d.safe.length=n1 at *
  generalize d.wait.length=n2 at *
  generalize allD d=al at *
  obtain ⟨n,hn⟩ : ∃ n,al.length=n:=⟨_,rfl⟩
  have HN : Hid (al.length=n):=hn
  rw [hn] at HCat HRd HSz hal
  generalize (dRead 120 al).1=rl at *
  generalize (dRead 120 al).2.1=m at *
  generalize (dRead 120 al).2.2=er at *
  clear hn
  have hmn : m≤n:=HSz.out
  obtain ⟨i1,i2,_⟩:=(HY.out W (Below.refl _ _)).1.at
  go_enter Tryz.func7,Tryz.ntmps7
  go_upto_region 1 with (fail)
  try rw [hW]
  go_upto_region 2 with (go_at_call 10; refine HCk.out.mono ?_; rintro e w2 ⟨rfl,hb2⟩)
  clear i1 i2
  obtain ⟨i1,i2,_⟩:=(HY.out w2 hb2).1.at
  go_upto_region 5 with (go_at_call 20; refine (HCat.out w2 _ hb2 rfl).mono ?_; rintro e w3 ⟨x,c,rfl,HX3,HB3⟩)
  have hb3 : Below W.heap.size W w3:=below_step hb2 HB3.out
  clear i1 i2 HCat
  go_upto_region 6 with (go_at_call 21; refine (HRd.out _ _ w3 hb3 HX3.out).mono ?_; rintro e w5 ⟨la,lc,L,rfl,HL5,HM5,HB5⟩)
  have hb5 : Below W.heap.size W w5:=below_step hb3 HB5.out
  have HX5 : Hid (∃ D,BS D w5 (.slice x n c) al):=let ⟨D,h⟩:=HX3.out; ⟨D,h.keep HB5.out⟩
  have hxb : BytesL w5.heap.size w5 x c al:=by
   obtain ⟨D,h⟩:=HX5.out
   have:=own_bytesL h
   exact this
  have hle:=hxb.le
  rw [HN.out] at hle
  have hsl : ∀ wk,(Instr.slice 22 (.slice x n c) none (some (.int .i64 (m : Nat))) (some (.int .i64 (m : Nat)))).run Tryz.prog wk=.ok (.slice x m m) wk:=bl_max x n c m (by omega) hxb.big (fun e => (hxb.nil e).2)
  obtain ⟨y0,y1,yf⟩:=(HY.out w5 hb5).2.1.at
  have f0:=yf 0
  have f1:=yf 1
  clear yf HRd hxb
  obtain ⟨W6,hW6,HF6,hb6,hk6⟩:=boxD_put (HY.out w5 hb5).2.1 (.slice x m m) (.slice none 0 0)
  go_wp2_with (fail)
  try rw [hW6]
  refine bodyPost_ret (res_box3 rfl _ _ (w.heap.size + 1) 24 _ (0,0) _ rfl HF6 Tryz.underlying24 rfl (by kernel_rfl)) rfl ?_
  rw [HRs.out]
  obtain ⟨D,hD⟩:=HX5.out
  have hfin : BS D W6 (.slice x n c) al:=own_keep hD (hk6 5 (by decide))
  refine ⟨x,m,none,0,la,lc,L,?_,⟨(own_bytesT hfin).take m m (by rw [HN.out]; exact hmn) (Nat.le_refl _) (by omega),BytesT.none _⟩,⟨_,HL5.out.keep (hk6 27 (by decide)) (hk6 3 (by decide))⟩,HM5,(HY.out w5 hb5).2.2.trans (hb6 _ (by omega))⟩
  show _=Ending.returned (.tuple #[.agg #[.slice x (al.take m).length m,.slice none 0 0],.slice la rl.length lc,.int .i64 0])
  rw [List.length_take,HN.out,Nat.min_eq_left hmn]
  rfl
 ·have hne : (dErr d != 0)=true:=by simpa using h0
  have HR1 : Hid (dRecR d=(dErr d,dk0,[])):=by show _=_; unfold dRecR; rw [if_neg h0]
  clear h0 HDz
  generalize dRecR d=rs at *
  generalize d.safe.length=n1 at *
  generalize d.wait.length=n2 at *
  generalize dErr d=er at *
  obtain ⟨i1,i2,_⟩:=(HY.out W (Below.refl _ _)).1.at
  go_enter Tryz.func7,Tryz.ntmps7
  go_upto_region 1 with (fail)
  try rw [hW]
  go_wp2_with (go_at_call 10; refine HCk.out.mono ?_; rintro e w2 ⟨rfl,hb2⟩; obtain ⟨y0,y1,yf⟩:=(HY.out w2 hb2).2.1.at; have f0:=yf 0; have f1:=yf 1)
  obtain ⟨W6,hW6,HF6,hb6,hk6⟩:=boxD_put (HY.out w2 hb2).2.1 (.slice none 0 0) (.slice none 0 0)
  try rw [hW6]
  refine bodyPost_ret (res_box3 rfl _ _ (w.heap.size + 1) 24 _ (0,0) _ rfl HF6 Tryz.underlying24 rfl (by kernel_rfl)) rfl ?_
  rw [HR1.out]
  exact DkRK.nothing ((HY.out w2 hb2).2.2.trans (hb6 _ (by omega)))

/-- What Crash answers. -/
def dCrashR (d : Dk) (n : Int) : Int×Dk:=if dErr d=0 then (if n < 0∨(d.wait.length : Int) < n then (3,dk0) else (0,⟨d.safe,d.wait.take n.toNat⟩)) else (dErr d,dk0)

set_option maxRecDepth 20000 in
set_option maxHeartbeats 4000000 in
/-- disk.Crash. -/
theorem dCrashC (N M : Nat) (d : Dk) (k : Int) (sa wa : Option Addr) (sc wc : Nat) (w : World) (he : NEnv N w) (hN : N≤w.heap.size) (hM : M≤w.heap.size) (h : DiskIn M w sa sc wa wc d) (hs : DSmall d) :
  Calls Tryz.prog 6 #[.agg #[.slice sa d.safe.length sc,.slice wa d.wait.length wc],.int .i64 k] w (DkK w (dCrashR d k).2 (dCrashR d k).1):=by
 obtain ⟨W,hW,HBW,HY⟩:=dtwo w (.slice sa d.safe.length sc) (.slice wa d.wait.length wc)
 have HCk : Hid (Calls Tryz.prog 10 #[.agg #[.slice sa d.safe.length sc,.slice wa d.wait.length wc]] W fun e w' => e=.returned (.int .i64 (dErr d))∧Below W.heap.size W w'):=dCheckC N M d sa wa sc wc W (he.below (HBW.out.mono hN)) (Nat.le_trans hN HBW.out.size) (Nat.le_trans hM HBW.out.size) (h.below (HBW.out.mono hM)) hs
 have HEn : Hid (∀ wk,Below W.heap.size W wk→M≤wk.heap.size∧DiskIn M wk sa sc wa wc d):=fun wk hk => by
  have hb:=(HY.out wk hk).2.2
  exact ⟨Nat.le_trans hM hb.size,h.below (hb.mono hM)⟩
 have HDz : Hid (dErr d=0→d.safe.length + d.wait.length≤60000):=fun h0 => (dErr_zero h0).1
 have HWl : Hid (d.wait.length≤wc∧wc≤9223372036854775807∧(wa=none→wc=0)):=⟨h.2.le,h.2.big,fun e => (h.2.nil e).2⟩
 clear h hs he hN hM
 by_cases h0 : dErr d=0
 ·have hlen:=HDz.out h0
  rw [h0] at HCk
  by_cases hk : k < 0∨(d.wait.length : Int) < k
  ·have HR1 : Hid (dCrashR d k=(3,dk0)):=by show _=_; unfold dCrashR; rw [if_pos h0,if_pos hk]
   clear h0 HDz hlen HEn HWl
   generalize dCrashR d k=rs at *
   generalize d.safe.length=n1 at *
   generalize d.wait.length=n2 at *
   obtain ⟨i1,i2,_⟩:=(HY.out W (Below.refl _ _)).1.at
   by_cases hk0 : k < 0
   ·clear hk
    go_enter Tryz.func6,Tryz.ntmps6
    go_upto_region 1 with (fail)
    try rw [hW]
    go_wp2_with (go_at_call 10; refine HCk.out.mono ?_; rintro e w2 ⟨rfl,hb2⟩; obtain ⟨z0,z1,_⟩:=(HY.out w2 hb2).1.at; obtain ⟨y0,y1,yf⟩:=(HY.out w2 hb2).2.1.at; have f0:=yf 0; have f1:=yf 1)
    obtain ⟨W6,hW6,HF6,hb6,hk6⟩:=boxD_put (HY.out w2 hb2).2.1 (.slice none 0 0) (.slice none 0 0)
    try rw [hW6]
    refine bodyPost_ret (res_box rfl _ _ (w.heap.size + 1) 24 _ (0,0) _ rfl HF6 Tryz.underlying24 rfl (by kernel_rfl)) rfl ?_
    rw [HR1.out]
    exact DkK.nothing ((HY.out w2 hb2).2.2.trans (hb6 _ (by omega)))
   ·have hk1 : (n2 : Int) < k:=by omega
    clear hk
    go_enter Tryz.func6,Tryz.ntmps6
    go_upto_region 1 with (fail)
    try rw [hW]
    go_wp2_with (go_at_call 10; refine HCk.out.mono ?_; rintro e w2 ⟨rfl,hb2⟩; obtain ⟨z0,z1,_⟩:=(HY.out w2 hb2).1.at; obtain ⟨y0,y1,yf⟩:=(HY.out w2 hb2).2.1.at; have f0:=yf 0; have f1:=yf 1)
    obtain ⟨W6,hW6,HF6,hb6,hk6⟩:=boxD_put (HY.out w2 hb2).2.1 (.slice none 0 0) (.slice none 0 0)
    try rw [hW6]
    refine bodyPost_ret (res_box rfl _ _ (w.heap.size + 1) 24 _ (0,0) _ rfl HF6 Tryz.underlying24 rfl (by kernel_rfl)) rfl ?_
    rw [HR1.out]
    exact DkK.nothing ((HY.out w2 hb2).2.2.trans (hb6 _ (by omega)))
  ·obtain ⟨m,rfl⟩ : ∃ m : Nat,k=(m : Int):=⟨k.toNat,by omega⟩
   have HR1 : Hid (dCrashR d (m : Int)=(0,⟨d.safe,d.wait.take m⟩)):=by show _=_; unfold dCrashR; rw [if_pos h0,if_neg hk]; rfl
   have hmn : m≤d.wait.length:=by omega
   have HC1 : Hid (∀ wk,Below W.heap.size W wk→Calls Tryz.prog 19 #[.slice sa d.safe.length sc] wk fun e w' => ∃ a' c',e=.returned (.slice a' d.safe.length c')∧Hid (BS wk.heap.size w' (.slice a' d.safe.length c') d.safe)∧Hid (Below wk.heap.size wk w')):=fun wk hk => cloneB wk (HEn.out wk hk).2.1 (by omega)
   have hwl:=HWl.out
   have HTl : Hid ((d.wait.take m).length=m):=by show _=_; rw [List.length_take]; omega
   have HC2 : Hid (∀ wk,Below W.heap.size W wk→Calls Tryz.prog 19 #[.slice wa m wc] wk fun e w' => ∃ a' c',e=.returned (.slice a' m c')∧Hid (BS wk.heap.size w' (.slice a' m c') (d.wait.take m))∧Hid (Below wk.heap.size wk w')):=fun wk hk => by
    have:=cloneB wk ((HEn.out wk hk).2.2.take m wc hmn (by omega) (Nat.le_refl _)) (by rw [HTl.out]; omega)
    rw [HTl.out] at this
    exact this
   have hsl : ∀ wk,(Instr.slice 22 (.slice wa d.wait.length wc) none (some (.int .i64 (m : Nat))) none).run Tryz.prog wk=.ok (.slice wa m wc) wk:=bl_to wa d.wait.length wc m (by omega) hwl.2.1 hwl.2.2
   have hk0 : decide ((m : Int) < 0)=false:=by simp
   have hk1 : ¬ (d.wait.length : Int) < (m : Int):=by omega
   have HDd : Hid (∀ wk a3 c3 a4 c4,BytesT wk a3 c3 d.safe→BytesT wk a4 c4 (d.wait.take m)→Below w.heap.size w wk→DkK w ⟨d.safe,d.wait.take m⟩ 0 (.returned (.tuple #[.agg #[.slice a3 d.safe.length c3,.slice a4 m c4],.int .i64 0])) wk):=fun wk a3 c3 a4 c4 h3 h4 hb => by
    refine ⟨a3,c3,a4,c4,?_,⟨h3,h4⟩,hb⟩
    show _=Ending.returned (.tuple #[.agg #[.slice a3 d.safe.length c3,.slice a4 (d.wait.take m).length c4],.int .i64 0])
    rw [HTl.out]
   clear h0 HDz hlen HEn HWl hwl hk hmn HTl
   generalize dCrashR d (m : Int)=rs at *
   generalize d.wait.take m=wt at *
   generalize hsf : d.safe=sf at *
   clear hsf
   generalize sf.length=n1 at *
   generalize d.wait.length=n2 at *
   obtain ⟨i1,i2,_⟩:=(HY.out W (Below.refl _ _)).1.at
   go_enter Tryz.func6,Tryz.ntmps6
   go_upto_region 1 with (fail)
   try rw [hW]
   go_upto_region 6 with (go_at_call 10; refine HCk.out.mono ?_; rintro e w2 ⟨rfl,hb2⟩; obtain ⟨z0,z1,_⟩:=(HY.out w2 hb2).1.at)
   clear i1 i2
   go_region_with (first
    | (go_at_call 19; refine (HC2.out w3 hb3).mono ?_; rintro e w4 ⟨a4,c4,rfl,HX4,HB4⟩; have hb4 : Below W.heap.size W w4:=below_step hb3 HB4.out; obtain ⟨y0,y1,yf⟩:=(HY.out w4 hb4).2.1.at; have f0:=yf 0; have f1:=yf 1)
    | (go_at_call 19; refine (HC1.out _ hb2.drew).mono ?_; rintro e w3 ⟨a3,c3,rfl,HX3,HB3⟩; have hb3 : Below W.heap.size W w3:=below_step hb2.drew HB3.out; obtain ⟨x0,x1,_⟩:=(HY.out w3 hb3).1.at))
   all_goals
    clear z0 z1 x0 x1 yf hb3
    obtain ⟨W6,hW6,HF6,hb6,hk6⟩:=boxD_put (HY.out w4 hb4).2.1 (.slice a3 n1 c3) (.slice a4 m c4)
    go_wp2_with (fail)
    try rw [hW6]
    refine bodyPost_ret (res_box rfl _ _ (w.heap.size + 1) 24 _ (0,0) _ rfl HF6 Tryz.underlying24 rfl (by kernel_rfl)) rfl ?_
    rw [HR1.out]
    exact HDd.out W6 a3 c3 a4 c4 (own_bytesT (own_keep (HX3.out.keep HB4.out) (hk6 5 (by decide)))) (own_bytesT (own_keep HX4.out (hk6 5 (by decide)))) ((HY.out w4 hb4).2.2.trans (hb6 _ (by omega)))
 ·have hne : (dErr d != 0)=true:=by simpa using h0
  have HR1 : Hid (dCrashR d k=(dErr d,dk0)):=by show _=_; unfold dCrashR; rw [if_neg h0]
  clear h0 HDz HWl HEn
  generalize dCrashR d k=rs at *
  generalize d.safe.length=n1 at *
  generalize d.wait.length=n2 at *
  generalize dErr d=er at *
  obtain ⟨i1,i2,_⟩:=(HY.out W (Below.refl _ _)).1.at
  go_enter Tryz.func6,Tryz.ntmps6
  go_upto_region 1 with (fail)
  try rw [hW]
  go_wp2_with (go_at_call 10; refine HCk.out.mono ?_; rintro e w2 ⟨rfl,hb2⟩; obtain ⟨y0,y1,yf⟩:=(HY.out w2 hb2).2.1.at; have f0:=yf 0; have f1:=yf 1)
  obtain ⟨W6,hW6,HF6,hb6,hk6⟩:=boxD_put (HY.out w2 hb2).2.1 (.slice none 0 0) (.slice none 0 0)
  try rw [hW6]
  refine bodyPost_ret (res_box rfl _ _ (w.heap.size + 1) 24 _ (0,0) _ rfl HF6 Tryz.underlying24 rfl (by kernel_rfl)) rfl ?_
  rw [HR1.out]
  exact DkK.nothing ((HY.out w2 hb2).2.2.trans (hb6 _ (by omega)))

end Go.Proofs.YtfaggdkiffhdbaaGreatDoor
