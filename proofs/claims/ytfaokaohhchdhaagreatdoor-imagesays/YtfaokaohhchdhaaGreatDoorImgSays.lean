/- ImageSays is true: programs are printed, texts are read, as the reckoning does. -/
import Derived.Test.YtfaokaohhchdhaaGreatDoorImgPrinted
import Derived.Test.YtfaokaohhchdhaaGreatDoorRefText2
import Derived.Test.YtfaokaohhchdhaaGreatDoorRefRead
import Derived.Test.YtfaokaohhchdhaaGreatDoorRefCodeSame
namespace Go.Proofs.YtfaokaohhchdhaaGreatDoor
open Go.RowKit Go.Maps

theorem eqCB_refl (n : Nat) (Q : Nat→Pc) : eqCB n n Q Q = true:=eqCB_of ⟨rfl,fun _ _ => ⟨rfl,rfl,rfl,fun _ _ => ⟨rfl,rfl,rfl,rfl,rfl,fun _ _ => rfl⟩⟩⟩

/-- Whoever reads a text so hands back the same. -/
theorem post_form (s : ByteArray) : ∃ (n : Nat) (Q : Nat→Pc),(¬ parseErr s.data.toList = 0→n = 0)∧∀ W e w',ParsePost s W e w'→∃ a c,e = .returned (.tuple #[.slice a n c,.int .i64 (parseErr s.data.toList)])∧ProcsAt w'.heap.size w' (.slice a n c) n Q∧Below W.heap.size W w':=by
 by_cases hz : parseErr s.data.toList = 0
 ·cases hr : readL s.data.toList.length s.data.toList with
  | none =>
   refine ⟨0,fun _ => ⟨0,0,0,fun _ => ⟨0,0,0,0,0,fun _ => 0⟩⟩,fun h => absurd hz h,?_⟩
   rintro W e w' ⟨⟨h,_⟩ | ⟨L,v,_,h1,_⟩,hb⟩
   ·exact absurd hz h
   ·rw [hr] at h1; cases h1
  | some L =>
   refine ⟨L.length,nthP L,fun h => absurd hz h,?_⟩
   rintro W e w' ⟨⟨h,_⟩ | ⟨L',v,_,h1,_,rfl,hp⟩,hb⟩
   ·exact absurd hz h
   ·rw [hr] at h1
    cases h1
    obtain ⟨a,c,rfl,_⟩:=hp.shape
    rw [hz]
    exact ⟨a,c,rfl,hp,hb⟩
 ·refine ⟨0,fun _ => ⟨0,0,0,fun _ => ⟨0,0,0,0,0,fun _ => 0⟩⟩,fun _ => rfl,?_⟩
  rintro W e w' ⟨⟨_,rfl⟩ | ⟨L',v,h,_⟩,hb⟩
  ·exact ⟨none,0,rfl,⟨none,0,rfl,by omega,Or.inl rfl⟩,hb⟩
  ·exact absurd h hz

set_option maxRecDepth 20000 in
set_option maxHeartbeats 4000000 in
/-- ImageSays is true. -/
theorem imageSays (N : Nat) (vp : Value) (np : Nat) (P : Nat→Pc) (s : ByteArray) (hsz : s.size ≤ 9223372036854775807) (w : World) (hN : N ≤ w.heap.size) (he : NEnv N w) (hp : ProcsAt N w vp np P) (hfit : opsFit np P) :
  Calls Tryz.prog 11 #[vp,.string s] w fun e w' => e = .returned (.bool true)∧Below w.heap.size w w':=by
 have HEn : Hid (∀ W,Below w.heap.size w W→NEnv N W∧N ≤ W.heap.size∧ProcsAt N W vp np P):=fun W hb => ⟨he.below (hb.mono hN),Nat.le_trans hN hb.size,hp.below (hb.mono hN)⟩
 obtain ⟨n,Q,hn0,hform⟩:=post_form s
 have HPs : Hid (∀ W,Below w.heap.size w W→Calls Tryz.prog 38 #[.string s] W fun e w' => ∃ a c,e = .returned (.tuple #[.slice a n c,.int .i64 (parseErr s.data.toList)])∧Hid (ProcsAt w'.heap.size w' (.slice a n c) n Q)∧Below W.heap.size W w'):=fun W hb =>
  (imageParse N s hsz W (HEn.out W hb).2.1 (HEn.out W hb).1).mono fun e w' h => hform W e w' h
 have HRd : Hid (s.size ≤ 60000→∀ W,Below w.heap.size w W→Calls Tryz.prog 41 #[.string s] W fun e w' => ∃ a c,e = .returned (.tuple #[.slice a n c,.int .i64 (parseErr s.data.toList)])∧Hid (ProcsAt w'.heap.size w' (.slice a n c) n Q)∧Below W.heap.size W w'):=fun hs W hb =>
  (codeRead N s hs W (HEn.out W hb).2.1 (HEn.out W hb).1).mono fun e w' h => hform W e w' h
 have HCk : Hid (∀ W,Below w.heap.size w W→Calls Tryz.prog 15 #[vp] W fun e w' => e = .returned (.int .i64 (codeErr np P))∧Below W.heap.size W w'):=fun W hb => refCheckCode N vp np P W (HEn.out W hb).2.1 (HEn.out W hb).2.2 hfit
 have HPd : Hid (∀ W,Below w.heap.size w W→Calls Tryz.prog 40 #[] W fun e w' => e = .returned (.bool true)∧Below W.heap.size W w'):=fun W hb => printed N W (HEn.out W hb).2.1 (HEn.out W hb).1
 have HSm : Hid (∀ (W : World) (v1 v2 : Value),ProcsAt W.heap.size W v1 n Q→ProcsAt W.heap.size W v2 n Q→Calls Tryz.prog 42 #[v1,v2] W fun e w' => e = .returned (.bool true)∧Below W.heap.size W w'):=fun W v1 v2 h1 h2 => by
  have:=codeSameR W.heap.size v1 v2 n n Q Q W (Nat.le_refl _) h1 h2
  rw [eqCB_refl] at this
  exact this
 have HBig : Hid (60000 < s.size→n = 0∧parseErr s.data.toList = 2):=fun h => by
  have e : parseErr s.data.toList = 2:=by unfold parseErr; rw [if_pos (by simpa using h)]
  exact ⟨hn0 (by rw [e]; decide),e⟩
 have HPr:=imagePrint N vp np P w hN he hp
 obtain ⟨ap,cp,rfl,_⟩:=hp.shape
 have HTx : Hid (codeErr np P = 0→∀ W,Below w.heap.size w W→Calls Tryz.prog 39 #[.slice ap np cp] W fun e w' => e = .returned (.string (bs (progT P np)))∧Below W.heap.size W w'):=fun hc W hb => codeText N _ np P W (HEn.out W hb).2.1 (HEn.out W hb).1 (HEn.out W hb).2.2 hc
 clear hn0 hform he hp hfit HEn
 generalize parseErr s.data.toList = x at *
 by_cases hc : codeErr np P = 0
 ·rw [hc] at HCk HPr
  have HTx2 : Hid (∀ W,Below w.heap.size w W→Calls Tryz.prog 39 #[.slice ap np cp] W fun e w' => e = .returned (.string (bs (progT P np)))∧Below W.heap.size W w'):=HTx.out hc
  have HPr2 : Hid (Calls Tryz.prog 37 #[.slice ap np cp] w fun e w' => e = .returned (.tuple #[.string (bs (progT P np)),.int .i64 0])∧Below w.heap.size w w'):=by
   have e : printL np P = progT P np:=by unfold printL; rw [if_pos hc]
   rw [e] at HPr
   exact HPr
  clear HTx HPr hc
  generalize bs (progT P np) = t at *
  have htt : (t.toList == t.toList) = true:=by simp
  by_cases hb : 60000 < s.size
  ·have hbi : (s.size : Int) > 60000:=by omega
   obtain ⟨rfl,rfl⟩:=HBig.out hb
   clear HRd HBig HSm hb
   go_enter Tryz.func11,Tryz.ntmps11
   go_wp2_with (first
    | (go_at_call 37; refine HPr2.out.mono ?_; rintro e w1 ⟨rfl,b1⟩)
    | (go_at_call 38; refine (HPs.out _ b1).mono ?_; rintro e w2 ⟨a,c,rfl,HQ,b2⟩; have b2':=below_step b1 b2)
    | (go_at_call 15; refine (HCk.out _ b2').mono ?_; rintro e w3 ⟨rfl,b3⟩; have b3':=below_step b2' b3)
    | (go_at_call 39; refine (HTx2.out _ b3').mono ?_; rintro e w4 ⟨rfl,b4⟩; have b4':=below_step b3' b4)
    | (go_at_call 40; refine (HPd.out _ b4').mono ?_; rintro e w5 ⟨rfl,b5⟩; have b5':=below_step b4' b5))
   go_ret
   exact ⟨rfl,b5'⟩
  ·have hbi : ¬ (s.size : Int) > 60000:=by omega
   have HRd2:=HRd.out (by omega)
   have HRd3 : Hid (∀ W,Below w.heap.size w W→Calls Tryz.prog 41 #[.string s] W fun e w' => ∃ a c,e = .returned (.tuple #[.slice a n c,.int .i64 x])∧Hid (ProcsAt w'.heap.size w' (.slice a n c) n Q)∧Below W.heap.size W w'):=HRd2
   clear HRd HBig hb HRd2
   go_enter Tryz.func11,Tryz.ntmps11
   go_wp2_with (first
    | (go_at_call 37; refine HPr2.out.mono ?_; rintro e w1 ⟨rfl,b1⟩)
    | (go_at_call 38; refine (HPs.out _ b1).mono ?_; rintro e w2 ⟨a,c,rfl,HQ,b2⟩; have b2':=below_step b1 b2)
    | (go_at_call 15; refine (HCk.out _ b2').mono ?_; rintro e w3 ⟨rfl,b3⟩; have b3':=below_step b2' b3)
    | (go_at_call 39; refine (HTx2.out _ b3').mono ?_; rintro e w4 ⟨rfl,b4⟩; have b4':=below_step b3' b4)
    | (go_at_call 40; refine (HPd.out _ b4').mono ?_; rintro e w5 ⟨rfl,b5⟩; have b5':=below_step b4' b5)
    | (go_at_call 41; refine (HRd3.out _ b5').mono ?_; rintro e w6 ⟨a2,c2,rfl,HQ2,b6⟩; have b6':=below_step b5' b6; have b26:=below_step b3 (below_step b4 (below_step b5 b6)))
    | (go_at_call 42; refine (HSm.out _ _ _ ((HQ.out.below b26).up b26.size) HQ2.out).mono ?_; rintro e w7 ⟨rfl,b7⟩; have b7':=below_step b6' b7))
   go_ret
   exact ⟨rfl,b7'⟩
 ·have hc0 : (codeErr np P == 0) = false:=by simp [hc]
  have hcc : (codeErr np P != codeErr np P) = false:=by simp
  have HPr2 : Hid (Calls Tryz.prog 37 #[.slice ap np cp] w fun e w' => e = .returned (.tuple #[.string ⟨#[]⟩,.int .i64 (codeErr np P)])∧Below w.heap.size w w'):=by
   have e : printL np P = []:=by unfold printL; rw [if_neg hc]
   rw [e] at HPr
   exact HPr
  clear HTx HPr hc
  generalize codeErr np P = ce at *
  by_cases hb : 60000 < s.size
  ·have hbi : (s.size : Int) > 60000:=by omega
   obtain ⟨rfl,rfl⟩:=HBig.out hb
   clear HRd HBig HSm hb
   go_enter Tryz.func11,Tryz.ntmps11
   go_wp2_with (first
    | (go_at_call 37; refine HPr2.out.mono ?_; rintro e w1 ⟨rfl,b1⟩)
    | (go_at_call 38; refine (HPs.out _ b1).mono ?_; rintro e w2 ⟨a,c,rfl,HQ,b2⟩; have b2':=below_step b1 b2)
    | (go_at_call 15; refine (HCk.out _ b2').mono ?_; rintro e w3 ⟨rfl,b3⟩; have b3':=below_step b2' b3)
    | (go_at_call 40; refine (HPd.out _ b3').mono ?_; rintro e w5 ⟨rfl,b5⟩; have b5':=below_step b3' b5))
   go_ret
   exact ⟨rfl,b5'⟩
  ·have hbi : ¬ (s.size : Int) > 60000:=by omega
   have HRd2:=HRd.out (by omega)
   have HRd3 : Hid (∀ W,Below w.heap.size w W→Calls Tryz.prog 41 #[.string s] W fun e w' => ∃ a c,e = .returned (.tuple #[.slice a n c,.int .i64 x])∧Hid (ProcsAt w'.heap.size w' (.slice a n c) n Q)∧Below W.heap.size W w'):=HRd2
   clear HRd HBig hb HRd2
   go_enter Tryz.func11,Tryz.ntmps11
   go_wp2_with (first
    | (go_at_call 37; refine HPr2.out.mono ?_; rintro e w1 ⟨rfl,b1⟩)
    | (go_at_call 38; refine (HPs.out _ b1).mono ?_; rintro e w2 ⟨a,c,rfl,HQ,b2⟩; have b2':=below_step b1 b2)
    | (go_at_call 15; refine (HCk.out _ b2').mono ?_; rintro e w3 ⟨rfl,b3⟩; have b3':=below_step b2' b3)
    | (go_at_call 40; refine (HPd.out _ b3').mono ?_; rintro e w5 ⟨rfl,b5⟩; have b5':=below_step b3' b5)
    | (go_at_call 41; refine (HRd3.out _ b5').mono ?_; rintro e w6 ⟨a2,c2,rfl,HQ2,b6⟩; have b6':=below_step b5' b6; have b26:=below_step b3 (below_step b5 b6))
    | (go_at_call 42; refine (HSm.out _ _ _ ((HQ.out.below b26).up b26.size) HQ2.out).mono ?_; rintro e w7 ⟨rfl,b7⟩; have b7':=below_step b6' b7))
   go_ret
   exact ⟨rfl,b7'⟩

end Go.Proofs.YtfaokaohhchdhaaGreatDoor
