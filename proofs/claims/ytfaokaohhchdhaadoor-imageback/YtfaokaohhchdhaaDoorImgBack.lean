/- ImageBack is true: what is printed is read, what is read is printed as it was. -/
import Derived.Test.YtfaokaohhchdhaaDoorImgPrinted
namespace Go.Proofs.YtfaokaohhchdhaaDoor
open Go.RowKit Go.Maps

/-- What becomes of any text: it isn't read; or what is read is printed as it was. -/
def ParsedOK (N : Nat) (s : ByteArray) (W : World) : Prop :=
 (∃ x : Int,(x != 0) = true∧Calls Tryd.prog 15 #[.string s] W fun e w' => e = .returned (.tuple #[.slice none 0 0,.int .i64 x])∧Below W.heap.size W w') ∨
 (Calls Tryd.prog 15 #[.string s] W fun e w' => ∃ a n c,e = .returned (.tuple #[.slice a n c,.int .i64 0])∧Below W.heap.size W w' ∧
  Hid (∀ W2,Below w'.heap.size w' W2→N ≤ w'.heap.size→Calls Tryd.prog 14 #[.slice a n c] W2 fun e w3 => ∃ t : ByteArray,e = .returned (.tuple #[.string t,.int .i64 0])∧(t.toList == s.toList) = true∧Below W2.heap.size W2 w3))

theorem parsed_ok (N : Nat) (s : ByteArray) (hsz : s.size ≤ 9223372036854775807) (W : World) (hN : N ≤ W.heap.size) (he : NEnv N W) : ParsedOK N s W:=by
 have h:=imageParse N s hsz W hN he
 by_cases hz : parseErr s.data.toList = 0
 ·refine Or.inr (h.mono ?_)
  rintro e w' ⟨⟨h,_⟩ | ⟨L,v,_,h1,h2,rfl,hp⟩,hb⟩
  ·exact absurd hz h
  ·obtain ⟨a,c,rfl,_⟩:=hp.shape
   refine ⟨a,_,c,rfl,hb,fun W2 hb2 hN2 => ?_⟩
   refine (imagePrint w'.heap.size _ L.length (nthP L) W2 hb2.size (((he.below (hb.mono hN)).up hN2).below hb2) (hp.below hb2)).mono ?_
   rintro e w3 ⟨rfl,hb3⟩
   rw [h2]
   refine ⟨_,rfl,str_eq ?_,hb3⟩
   rw [bs_data]
   unfold printL
   rw [if_pos h2,read_back h1]
 ·refine Or.inl ⟨parseErr s.data.toList,by simp [hz],h.mono ?_⟩
  rintro e w' ⟨⟨_,rfl⟩ | ⟨L,v,h,_⟩,hb⟩
  ·exact ⟨rfl,hb⟩
  ·exact absurd h hz

set_option maxRecDepth 20000 in
set_option maxHeartbeats 4000000 in
/-- ImageBack is true. -/
theorem imageBack (N : Nat) (vp : Value) (np : Nat) (P : Nat→Pc) (s : ByteArray) (hsz : s.size ≤ 9223372036854775807) (w : World) (hN : N ≤ w.heap.size) (he : NEnv N w) (hp : ProcsAt N w vp np P) :
  Calls Tryd.prog 5 #[vp,.string s] w fun e w' => e = .returned (.bool true)∧Below w.heap.size w w':=by
 have HE : Hid (NEnv N w):=he
 have HP : Hid (ProcsAt N w vp np P):=hp
 have HEn : Hid (∀ W,Below w.heap.size w W→NEnv N W∧N ≤ W.heap.size):=fun W hb => ⟨he.below (hb.mono hN),Nat.le_trans hN hb.size⟩
 have HPr : Hid (Calls Tryd.prog 14 #[vp] w fun e w' => e = .returned (.tuple #[.string (bs (printL np P)),.int .i64 (codeErr np P)])∧Below w.heap.size w w'):=imagePrint N vp np P w hN he hp
 have HPd : Hid (∀ W,Below w.heap.size w W→Calls Tryd.prog 17 #[] W fun e w' => e = .returned (.bool true)∧Below W.heap.size W w'):=fun W hb => printed N W (HEn.out W hb).2 (HEn.out W hb).1
 have HSecond : Hid (∀ W,Below w.heap.size w W→ParsedOK N s W):=fun W hb => parsed_ok N s hsz W (HEn.out W hb).2 (HEn.out W hb).1
 obtain ⟨ap,cp,rfl,_⟩:=hp.shape
 clear he hp
 by_cases hc : codeErr np P = 0
 ·have HC : Hid (codeErr np P = 0):=hc
  rw [hc] at HPr
  have HTx : Hid (printL np P = progT P np):=by show _ = _; unfold printL; rw [if_pos hc]
  clear hc
  by_cases hl : (bs (printL np P)).size ≤ 60000
  ·have hli : ((bs (printL np P)).size : Int) ≤ 60000:=by omega
   have HFirst : Hid (∀ W,Below w.heap.size w W→Calls Tryd.prog 15 #[.string (bs (printL np P))] W fun e w' => ∃ a n c,e = .returned (.tuple #[.slice a n c,.int .i64 0])∧Hid (∃ Q,ProcsAt w'.heap.size w' (.slice a n c) n Q∧eqCB np n P Q = true)∧Below W.heap.size W w'):=fun W hb => by
    have hsl : (bs (printL np P)).size = (progT P np).length:=by rw [HTx.out]; simp [bs,ByteArray.size]
    obtain ⟨L,hL,hq,hz⟩:=parse_text HC.out (by omega)
    have e0 : (bs (printL np P)).data.toList = progT P np:=by rw [HTx.out]; rfl
    refine (imageParse N (bs (printL np P)) (by omega) W (HEn.out W hb).2 (HEn.out W hb).1).mono ?_
    rintro e w' ⟨⟨h,_⟩ | ⟨L',v,_,h1,_,rfl,hp⟩,hbb⟩
    ·rw [e0] at h; exact absurd hz h
    ·rw [e0,hL] at h1
     cases h1
     obtain ⟨a,c,rfl,_⟩:=hp.shape
     exact ⟨a,_,c,rfl,⟨_,hp,eqCB_of hq⟩,hbb⟩
   have HSm : Hid (∀ (W : World) (v2 : Value) (n : Nat),Below w.heap.size w W→(∃ Q,ProcsAt W.heap.size W v2 n Q∧eqCB np n P Q = true)→Calls Tryd.prog 16 #[.slice ap np cp,v2] W fun e w' => e = .returned (.bool true)∧Below W.heap.size W w'):=fun W v2 n hb ⟨Q,hq,heq⟩ => by
    have:=codeSame W.heap.size _ v2 np n P Q W (Nat.le_refl _) ((HP.out.below (hb.mono hN)).up (Nat.le_trans hN hb.size)) hq
    rw [heq] at this
    exact this
   generalize bs (printL np P) = t at *
   clear hl HTx
   go_enter Tryd.func5,Tryd.ntmps5
   go_upto_region 6 with (first
    | (go_at_call 14; refine HPr.out.mono ?_; rintro e w1 ⟨rfl,b1⟩)
    | (go_at_call 15; refine (HFirst.out _ b1).mono ?_; rintro e w2 ⟨a,n,c,rfl,HQ,b2⟩)
    | (go_at_call 16; refine (HSm.out _ _ _ (below_step b1 b2) HQ.out).mono ?_; rintro e w3 ⟨rfl,b3⟩))
   have hbW : Below w.heap.size w w3:=below_step b1 (below_step b2 b3)
   clear b1 b2 b3 HFirst HSm HQ HPr HP
   rcases HSecond.out w3 hbW with ⟨x,hx,hPs⟩ | hPs
   ·have HPs : Hid (Calls Tryd.prog 15 #[.string s] w3 fun e w' => e = .returned (.tuple #[.slice none 0 0,.int .i64 x])∧Below (w3.heap).size w3 w'):=hPs
    clear hPs HSecond
    go_upto_region 7 with (first
     | (go_at_call 15; refine HPs.out.mono ?_; rintro e w4 ⟨rfl,b4⟩))
    go_upto_region 8 with (first
     | (go_at_call 17; refine (HPd.out _ (below_step hbW b4)).mono ?_; rintro e w5 ⟨rfl,b5⟩))
    go_wp2_with (first
     | (go_at_call 17; refine (HPd.out _ (below_step hbW (below_step b4 b5))).mono ?_; rintro e w6 ⟨rfl,b6⟩))
    go_ret
    exact ⟨rfl,below_step hbW (below_step b4 (below_step b5 b6))⟩
   ·have HPs : Hid (Calls Tryd.prog 15 #[.string s] w3 fun e w' => ∃ a n c,e = .returned (.tuple #[.slice a n c,.int .i64 0])∧Below (w3.heap).size w3 w' ∧
     Hid (∀ W2,Below w'.heap.size w' W2→N ≤ w'.heap.size→Calls Tryd.prog 14 #[.slice a n c] W2 fun e w3 => ∃ t : ByteArray,e = .returned (.tuple #[.string t,.int .i64 0])∧(t.toList == s.toList) = true∧Below W2.heap.size W2 w3)):=hPs
    clear hPs HSecond
    go_upto_region 7 with (first
     | (go_at_call 15; refine HPs.out.mono ?_; rintro e w4 ⟨aq,nq,cq,rfl,b4,HQr⟩))
    go_wp2_with (first
     | (go_at_call 17; refine (HPd.out _ (below_step hbW b4)).mono ?_; rintro e w5 ⟨rfl,b5⟩)
     | (go_at_call 14; refine (HQr.out _ b5 (Nat.le_trans hN (below_step hbW b4).size)).mono ?_; rintro e w6 ⟨tt,rfl,htt,b6⟩))
    go_ret
    exact ⟨rfl,below_step hbW (below_step b4 (below_step b5 b6))⟩
  ·have hli : ¬ ((bs (printL np P)).size : Int) ≤ 60000:=by omega
   generalize bs (printL np P) = t at *
   clear hl HTx
   go_enter Tryd.func5,Tryd.ntmps5
   go_upto_region 6 with (first
    | (go_at_call 14; refine HPr.out.mono ?_; rintro e w1 ⟨rfl,b1⟩))
   have hbW : Below w.heap.size w w1:=b1
   clear b1 HPr HP
   rcases HSecond.out w1 hbW with ⟨x,hx,hPs⟩ | hPs
   ·have HPs : Hid (Calls Tryd.prog 15 #[.string s] w1 fun e w' => e = .returned (.tuple #[.slice none 0 0,.int .i64 x])∧Below (w1.heap).size w1 w'):=hPs
    clear hPs HSecond
    go_upto_region 7 with (first
     | (go_at_call 15; refine HPs.out.mono ?_; rintro e w4 ⟨rfl,b4⟩))
    go_upto_region 8 with (first
     | (go_at_call 17; refine (HPd.out _ (below_step hbW b4)).mono ?_; rintro e w5 ⟨rfl,b5⟩))
    go_wp2_with (first
     | (go_at_call 17; refine (HPd.out _ (below_step hbW (below_step b4 b5))).mono ?_; rintro e w6 ⟨rfl,b6⟩))
    go_ret
    exact ⟨rfl,below_step hbW (below_step b4 (below_step b5 b6))⟩
   ·have HPs : Hid (Calls Tryd.prog 15 #[.string s] w1 fun e w' => ∃ a n c,e = .returned (.tuple #[.slice a n c,.int .i64 0])∧Below (w1.heap).size w1 w' ∧
     Hid (∀ W2,Below w'.heap.size w' W2→N ≤ w'.heap.size→Calls Tryd.prog 14 #[.slice a n c] W2 fun e w3 => ∃ t : ByteArray,e = .returned (.tuple #[.string t,.int .i64 0])∧(t.toList == s.toList) = true∧Below W2.heap.size W2 w3)):=hPs
    clear hPs HSecond
    go_upto_region 7 with (first
     | (go_at_call 15; refine HPs.out.mono ?_; rintro e w4 ⟨aq,nq,cq,rfl,b4,HQr⟩))
    go_wp2_with (first
     | (go_at_call 17; refine (HPd.out _ (below_step hbW b4)).mono ?_; rintro e w5 ⟨rfl,b5⟩)
     | (go_at_call 14; refine (HQr.out _ b5 (Nat.le_trans hN (below_step hbW b4).size)).mono ?_; rintro e w6 ⟨tt,rfl,htt,b6⟩))
    go_ret
    exact ⟨rfl,below_step hbW (below_step b4 (below_step b5 b6))⟩
 ·have hc0 : (codeErr np P == 0) = false:=by simp [hc]
  clear hc
  generalize bs (printL np P) = t at *
  go_enter Tryd.func5,Tryd.ntmps5
  go_upto_region 6 with (first
   | (go_at_call 14; refine HPr.out.mono ?_; rintro e w1 ⟨rfl,b1⟩))
  have hbW : Below w.heap.size w w1:=b1
  clear b1 HPr HP
  rcases HSecond.out w1 hbW with ⟨x,hx,hPs⟩ | hPs
  ·have HPs : Hid (Calls Tryd.prog 15 #[.string s] w1 fun e w' => e = .returned (.tuple #[.slice none 0 0,.int .i64 x])∧Below (w1.heap).size w1 w'):=hPs
   clear hPs HSecond
   go_upto_region 7 with (first
    | (go_at_call 15; refine HPs.out.mono ?_; rintro e w4 ⟨rfl,b4⟩))
   go_upto_region 8 with (first
    | (go_at_call 17; refine (HPd.out _ (below_step hbW b4)).mono ?_; rintro e w5 ⟨rfl,b5⟩))
   go_wp2_with (first
    | (go_at_call 17; refine (HPd.out _ (below_step hbW (below_step b4 b5))).mono ?_; rintro e w6 ⟨rfl,b6⟩))
   go_ret
   exact ⟨rfl,below_step hbW (below_step b4 (below_step b5 b6))⟩
  ·have HPs : Hid (Calls Tryd.prog 15 #[.string s] w1 fun e w' => ∃ a n c,e = .returned (.tuple #[.slice a n c,.int .i64 0])∧Below (w1.heap).size w1 w' ∧
    Hid (∀ W2,Below w'.heap.size w' W2→N ≤ w'.heap.size→Calls Tryd.prog 14 #[.slice a n c] W2 fun e w3 => ∃ t : ByteArray,e = .returned (.tuple #[.string t,.int .i64 0])∧(t.toList == s.toList) = true∧Below W2.heap.size W2 w3)):=hPs
   clear hPs HSecond
   go_upto_region 7 with (first
    | (go_at_call 15; refine HPs.out.mono ?_; rintro e w4 ⟨aq,nq,cq,rfl,b4,HQr⟩))
   go_wp2_with (first
    | (go_at_call 17; refine (HPd.out _ (below_step hbW b4)).mono ?_; rintro e w5 ⟨rfl,b5⟩)
    | (go_at_call 14; refine (HQr.out _ b5 (Nat.le_trans hN (below_step hbW b4).size)).mono ?_; rintro e w6 ⟨tt,rfl,htt,b6⟩))
   go_ret
   exact ⟨rfl,below_step hbW (below_step b4 (below_step b5 b6))⟩

end Go.Proofs.YtfaokaohhchdhaaDoor
