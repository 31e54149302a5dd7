/- DiskSays: the law over memory, whole; a disk, read. -/
import Derived.Test.YtfaggdkiffhdbaaGreatDoorLawDS
import Derived.Test.YtfaggdkiffhdbaaGreatDoorPart7
import Derived.ChangeSame
namespace Go.Proofs.YtfaggdkiffhdbaaGreatDoor
open Go.RowKit Go.Maps

theorem diskSays (N : Nat) (d x : Dk) (r : Rc) (n : Int) (sa wa xa ya ra ia : Option Addr) (sc wc xc yc rc ic : Nat) (w : World) (he : NEnv N w) (hN : N≤w.heap.size) (hd : DiskIn w.heap.size w sa sc wa wc d) (hx : DiskIn w.heap.size w xa xc ya yc x) (hs : DSmall d) (hr : RecIn w.heap.size w ra rc ia ic r) (hk : (Lit.int .i64 r.kind).wf=true) :
  Calls Tryz.prog 3 #[.agg #[.slice sa d.safe.length sc,.slice wa d.wait.length wc],.agg #[.int .i64 r.kind,.int .i64 r.co,.int .i64 r.ep,.int .i64 r.pl,.slice ra r.says.length rc,.slice ia r.img.length ic],.int .i64 n,.agg #[.slice xa x.safe.length xc,.slice ya x.wait.length yc]] w fun e w' => e=.returned (.bool true)∧Hid (Below w.heap.size w w'):=by
 obtain ⟨W,hW,_,HX⟩:=dstart w (.slice sa d.safe.length sc) (.slice wa d.wait.length wc) r.kind r.co r.ep r.pl (.slice ra r.says.length rc) (.slice ia r.img.length ic) (.slice xa x.safe.length xc) (.slice ya x.wait.length yc)
 have hNk : ∀ {wk},Below w.heap.size w wk→N≤wk.heap.size:=fun hk => Nat.le_trans hN hk.size
 have hek : ∀ {wk},Below w.heap.size w wk→NEnv N wk:=fun hk => he.below (hk.mono hN)
 have hdk : ∀ {wk},Below w.heap.size w wk→DiskIn w.heap.size wk sa sc wa wc d:=fun hk => hd.below hk
 have hxk : ∀ {wk},Below w.heap.size w wk→DiskIn w.heap.size wk xa xc ya yc x:=fun hk => hx.below hk
 have hrk : ∀ {wk},Below w.heap.size w wk→RecIn w.heap.size wk ra rc ia ic r:=fun hk => hr.below hk
 refine ds_core d x (dPutR d r).2 (dSyncR d).2 (dCrashR d n).2 (dRecR d).2.1 (dRecR d).2.2 r n (dErr d) (dPutR d r).1 (dSyncR d).1 (dCrashR d n).1 (dRecR d).1 (dkEq d x) sa wa xa ya ra ia sc wc xc yc rc ic w W hW HX ?_ ?_ ?_ ?_ ?_ ?_ ?_ ?_ ?_ ?_ ?_ ?_ ?_ ?_ ?_ ?_
 ·exact fun wk hb => filed N wk (hNk hb) (hek hb)
 ·exact fun wk hb => dPutC N w.heap.size d r sa wa ra ia sc wc rc ic wk (hek hb) (hNk hb) hb.size (hdk hb) hs (hrk hb)
 ·exact fun wk hb => dSyncC N w.heap.size d sa wa sc wc wk (hek hb) (hNk hb) hb.size (hdk hb) hs
 ·exact fun wk hb => dCrashC N w.heap.size d n sa wa sc wc wk (hek hb) (hNk hb) hb.size (hdk hb) hs
 ·exact fun wk hb => dRecoverC N w.heap.size d sa wa sc wc wk (hek hb) (hNk hb) hb.size (hdk hb) hs
 ·exact fun wk hb => rCheckDisk N w.heap.size d sa wa sc wc wk (hek hb) (hNk hb) hb.size (hdk hb) hs
 ·exact fun wk hb => dCheckC N w.heap.size d sa wa sc wc wk (hek hb) (hNk hb) hb.size (hdk hb) hs
 ·exact fun wk hb => dSameC w.heap.size d x sa wa xa ya sc wc xc yc wk hb.size (hdk hb) (hxk hb)
 ·exact fun wk hb => rSameDisk w.heap.size d x sa wa xa ya sc wc xc yc wk hb.size (hdk hb) (hxk hb)
 ·intro h0
  have h1 : dPutR d r=(dErr d,dk0):=by unfold dPutR; rw [if_neg h0]
  have h2 : dSyncR d=(dErr d,dk0):=by unfold dSyncR; rw [if_neg h0]
  have h3 : dCrashR d n=(dErr d,dk0):=by unfold dCrashR; rw [if_neg h0]
  have h4 : dRecR d=(dErr d,dk0,[]):=by unfold dRecR; rw [if_neg h0]
  rw [h1,h2,h3,h4]
  exact ⟨⟨rfl,rfl,rfl,rfl⟩,rfl,rfl,rfl,rfl,rfl⟩
 ·exact fun h0 wk hb => rPutOn N w.heap.size d r sa wa ra ia sc wc rc ic wk (hek hb) (hNk hb) hb.size (hdk hb) h0 (hrk hb) hk
 ·exact fun h0 wk hb => rSynced N w.heap.size d sa wa sc wc wk (hek hb) (hNk hb) hb.size (hdk hb) h0
 ·exact fun h0 wk hb => rRecovered N w.heap.size d sa wa sc wc wk (hek hb) (hNk hb) hb.size (hdk hb) h0
 ·intro h0
  show (dRecR d).1=0
  unfold dRecR
  rw [if_pos h0]
 ·intro h0 h1
  have h3 : dCrashR d n=(3,dk0):=by unfold dCrashR; rw [if_pos h0,if_pos h1]
  rw [h3]
  exact ⟨rfl,rfl⟩
 ·intro h0 h1
  have h3 : dCrashR d n=(0,⟨d.safe,d.wait.take n.toNat⟩):=by unfold dCrashR; rw [if_pos h0,if_neg h1]
  have hm : n.toNat≤d.wait.length:=by omega
  have hw:=hd.2
  rw [h3]
  refine ⟨rfl,n.toNat,by omega,hm,rfl,bl_to wa d.wait.length wc n.toNat (by have:=hw.le; omega) hw.big (fun e => (hw.nil e).2),fun wk hb => ?_⟩
  exact ⟨(hdk hb).1.up hb.size,((hdk hb).2.take n.toNat wc hm (by have:=hw.le; omega) (Nat.le_refl _)).up hb.size⟩

end Go.Proofs.YtfaggdkiffhdbaaGreatDoor
