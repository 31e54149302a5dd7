/- printed: a closed fact; ImageBack is true: what is printed is read, what is read is printed as it was. -/
import Derived.Test.YtfaokaohhchdhaaDoorImgParse
import Derived.Test.YtfaokaohhchdhaaDoorImgPrint
import Derived.Test.YtfaokaohhchdhaaDoorCodeSame
namespace Go.Proofs.YtfaokaohhchdhaaDoor
open Go.RowKit Go.Maps

theorem eqInB_of {a b : In} (h : eqIn a b) : eqInB a b = true:=by
 obtain ⟨h1,h2,h3,h4,h5,h6⟩:=h
 unfold eqInB
 rw [h1,h2,h3,h4,eqB_iff.2 ⟨h5,h6⟩]
 simp
theorem eqPcB_of {p q : Pc} (h : eqPc p q) : eqPcB p q = true:=by
 obtain ⟨h1,h2,h3,h4⟩:=h
 unfold eqPcB
 rw [h1,h2]
 have : eqCodeB p.n q.n p.ins q.ins = true:=by unfold eqCodeB; exact decide_eq_true ⟨h3,fun k hk => eqInB_of (h4 k hk)⟩
 rw [this]
 simp
theorem eqCB_of {np nq : Nat} {P Q : Nat→Pc} (h : eqC np nq P Q) : eqCB np nq P Q = true:=by
 unfold eqCB
 exact decide_eq_true ⟨h.1,fun k hk => eqPcB_of (h.2 k hk)⟩

theorem catB_long {f : Nat→List UInt8} (h : ∀ k,f k ≠ []) : ∀ (m i : Nat),m ≤ (catB f i m).length
 | 0,_ => Nat.zero_le _
 | m + 1,i => by
  have ih:=catB_long h m (i + 1)
  have:=List.length_pos_iff.2 (h i)
  rw [catB,List.length_append]
  omega

/-- What is printed is read as it is,without an error. -/
theorem parse_text {np : Nat} {P : Nat→Pc} (h : codeErr np P = 0) (hl : (progT P np).length ≤ 60000) : ∃ L,readL (progT P np).length (progT P np) = some L∧eqC np L.length P (nthP L)∧parseErr (progT P np) = 0:=by
 obtain ⟨h1,h2,h3,h4⟩:=code_zero h
 have hn : np ≤ (progT P np).length:=catB_long (fun k => pcT_ne (P k)) np 0
 obtain ⟨L,e,hl2,hL⟩:=readL_text (P:=P) np 0 (progT P np).length hn fun j hj => by
  rw [Nat.zero_add]
  obtain ⟨a,b,c,d⟩:=pcErr_zero (h3 j hj)
  exact ⟨⟨by unfold i64; omega,by unfold i64; omega⟩,c.1,c.2,fun k hk => code_i64 h hj hk⟩
 have hq : eqC np L.length P (nthP L):=⟨hl2.symm,fun k hk => by have:=hL k hk; rw [Nat.zero_add] at this; exact this⟩
 refine ⟨L,e,hq,?_⟩
 unfold parseErr
 rw [if_neg (by omega)]
 have e' : readL (progT P np).length (progT P np) = some L:=e
 rw [e']
 simp only []
 rw [← codeErr_congr hq,h]

/-- The program of one instruction. -/
def pc0 : Pc:=⟨0,1,1,fun _ => ⟨8,0,0,0,0,fun _ => 0⟩⟩
theorem pc0_right : codeErr 1 (fun _ => pc0) = 0:=by decide
theorem pc0_text : progT (fun _ => pc0) 1 = [48,32,49,32,49,10,56,32,48,32,48,32,48,10]:=by
 have z0 : Lib.itoa 0 = [48]:=by decide +kernel
 have z1 : Lib.itoa 1 = [49]:=by decide +kernel
 have z8 : Lib.itoa 8 = [56]:=by decide +kernel
 show (lnT [0,1,1] ++ (lnT [8,0,0,0] ++ [])) ++ [] = _
 simp only [lnT,lineL,List.map_cons,List.map_nil,z0,z1,z8,Lib.join_cons,Lib.joinTail]
 rfl

/-- Two strings are one. -/
theorem str_eq {a b : ByteArray} (h : a.data.toList = b.data.toList) : (a.toList == b.toList) = true:=by
 rw [ByteArray.toList_eq,ByteArray.toList_eq,h]; simp

theorem NEnv.up {N M : Nat} {w : World} (h : NEnv N w) (hm : N ≤ M) : NEnv M w:=⟨Nat.le_trans h.low hm,h.pow,h.syn,h.rng,h.max⟩

set_option maxRecDepth 20000 in
set_option maxHeartbeats 2000000 in
theorem printed (N : Nat) (w : World) (hN : N ≤ w.heap.size) (he : NEnv N w) : Calls Tryd.prog 17 #[] w fun e w' => e = .returned (.bool true)∧Below w.heap.size w w':=by
 have HE : Hid (NEnv N w):=he
 have HPA : Hid (∀ (W : World) (X Y : Nat),w.heap.size = X→w.heap.size + 1 = Y→W = (w.alloc (.cells #[.int .i64 8,.int .i64 0,.int .i64 0,.int .i64 0,.slice none 0 0] 60)).alloc (.cells #[.int .i64 0,.int .i64 1,.slice (some ⟨X,0,none⟩) 1 1] 58)→ProcsAt W.heap.size W (.slice (some ⟨Y,0,none⟩) 1 1) 1 (fun _ => pc0)∧Below w.heap.size w W):=by
  rintro W X Y rfl rfl rfl
  have hb2:=below_alloc (w.alloc (.cells #[.int .i64 8,.int .i64 0,.int .i64 0,.int .i64 0,.slice none 0 0] 60)) (.cells #[.int .i64 0,.int .i64 1,.slice (some ⟨w.heap.size,0,none⟩) 1 1] 58)
  have hs1 : (w.alloc (.cells #[.int .i64 8,.int .i64 0,.int .i64 0,.int .i64 0,.slice none 0 0] 60)).heap.size = w.heap.size + 1:=by simp
  have hs2 : ((w.alloc (.cells #[.int .i64 8,.int .i64 0,.int .i64 0,.int .i64 0,.slice none 0 0] 60)).alloc (.cells #[.int .i64 0,.int .i64 1,.slice (some ⟨w.heap.size,0,none⟩) 1 1] 58)).heap.size = w.heap.size + 1 + 1:=by simp
  refine ⟨⟨_,1,rfl,by omega,Or.inr ⟨w.heap.size + 1,0,rfl,by omega,fun i hi => ?_⟩⟩,below_step (below_alloc _ _) hb2⟩
  obtain rfl : i = 0:=by omega
  have c : ∀ j : Nat,((w.alloc (.cells #[.int .i64 8,.int .i64 0,.int .i64 0,.int .i64 0,.slice none 0 0] 60)).alloc (.cells #[.int .i64 0,.int .i64 1,.slice (some ⟨w.heap.size,0,none⟩) 1 1] 58)).cell? ⟨w.heap.size + 1,j,none⟩ = (#[.int .i64 0,.int .i64 1,.slice (some ⟨w.heap.size,0,none⟩) 1 1] : Array Value)[j]?:=fun j => by
   rw [← hs1,World.cell?_alloc_new]
  have d : ∀ j : Nat,((w.alloc (.cells #[.int .i64 8,.int .i64 0,.int .i64 0,.int .i64 0,.slice none 0 0] 60)).alloc (.cells #[.int .i64 0,.int .i64 1,.slice (some ⟨w.heap.size,0,none⟩) 1 1] 58)).cell? ⟨w.heap.size,j,none⟩ = (#[.int .i64 8,.int .i64 0,.int .i64 0,.int .i64 0,.slice none 0 0] : Array Value)[j]?:=fun j => by
   rw [hb2.cell (p:=⟨w.heap.size,j,none⟩) (by rw [hs1]; exact Nat.lt_succ_self _),World.cell?_alloc_new]
  refine ⟨.slice (some ⟨w.heap.size,0,none⟩) 1 1,c 0,c 1,c 2,⟨_,1,rfl,by show 1 ≤ _; omega,Or.inr ⟨w.heap.size,0,rfl,by omega,fun k hk => ?_⟩⟩⟩
  obtain rfl : k = 0:=by have : k < 1:=hk; omega
  exact ⟨.slice none 0 0,d 0,d 1,d 2,d 3,d 4,⟨none,0,rfl,by show 0 ≤ _; omega,Or.inl rfl⟩⟩
 have HTx : Hid (printL 1 (fun _ => pc0) = [48,32,49,32,49,10,56,32,48,32,48,32,48,10]):=by show _ = _; unfold printL; rw [if_pos pc0_right,pc0_text]
 have HPr : Hid (∀ (W : World) (v : Value),Below w.heap.size w W→ProcsAt W.heap.size W v 1 (fun _ => pc0)→Calls Tryd.prog 14 #[v] W fun e w' => e = .returned (.tuple #[.string ⟨#[48,32,49,32,49,10,56,32,48,32,48,32,48,10]⟩,.int .i64 0])∧Below W.heap.size W w'):=fun W v hb hp => by
  have h13:=HE.out.low
  have:=imagePrint W.heap.size v 1 (fun _ => pc0) W (Nat.le_refl _) (((HE.out.below (hb.mono hN)).up (Nat.le_trans hN hb.size))) hp
  rw [HTx.out,pc0_right] at this
  exact this
 have HPs : Hid (∀ (W : World),Below w.heap.size w W→Calls Tryd.prog 15 #[.string ⟨#[48,32,49,32,49,10,56,32,48,32,48,32,48,10]⟩] W fun e w' => ∃ a c,e = .returned (.tuple #[.slice a 1 c,.int .i64 0])∧Hid (∃ Q,ProcsAt w'.heap.size w' (.slice a 1 c) 1 Q∧eqCB 1 1 (fun _ => pc0) Q = true)∧Below W.heap.size W w'):=fun W hb => by
  obtain ⟨L,hL,hq,hz⟩:=parse_text pc0_right (by rw [pc0_text]; decide)
  rw [pc0_text] at hL hz
  refine (imageParse N ⟨#[48,32,49,32,49,10,56,32,48,32,48,32,48,10]⟩ (by decide) W (Nat.le_trans hN hb.size) (HE.out.below (hb.mono hN))).mono ?_
  rintro e w' ⟨⟨h,_⟩ | ⟨L',v,_,h1,_,rfl,hp⟩,hbb⟩
  ·exact absurd hz h
  ·have h1' : readL ([48,32,49,32,49,10,56,32,48,32,48,32,48,10] : List UInt8).length [48,32,49,32,49,10,56,32,48,32,48,32,48,10] = some L':=h1
   rw [hL] at h1'
   cases h1'
   have hl1 : L.length = 1:=hq.1.symm
   rw [hl1] at hp hq
   obtain ⟨a,c,rfl,_⟩:=hp.shape
   exact ⟨a,c,rfl,⟨_,hp,eqCB_of hq⟩,hbb⟩
 have HSm : Hid (∀ (W : World) (v1 v2 : Value),(∃ Q,ProcsAt W.heap.size W v2 1 Q∧eqCB 1 1 (fun _ => pc0) Q = true)→ProcsAt W.heap.size W v1 1 (fun _ => pc0)→Calls Tryd.prog 16 #[v1,v2] W fun e w' => e = .returned (.bool true)∧Below W.heap.size W w'):=fun W v1 v2 ⟨Q,hq,heq⟩ hp => by
  have:=codeSame W.heap.size v1 v2 1 1 (fun _ => pc0) Q W (Nat.le_refl _) hp hq
  rw [heq] at this
  exact this
 have hw1 : w.heap.size + 1 = w.heap.size + 1:=rfl
 clear he
 go_enter Tryd.func17,Tryd.ntmps17
 go_upto_region 2 with (fail)
 obtain ⟨hp0,hb0⟩:=HPA.out _ _ _ rfl rfl rfl
 generalize hWe : (w.alloc (.cells #[.int .i64 8,.int .i64 0,.int .i64 0,.int .i64 0,.slice none 0 0] 60)).alloc (.cells #[.int .i64 0,.int .i64 1,.slice (some ⟨w.heap.size,0,none⟩) 1 1] 58) = W at *
 have HP0 : Hid (ProcsAt W.heap.size W (.slice (some ⟨w.heap.size + 1,0,none⟩) 1 1) 1 (fun _ => pc0)):=hp0
 clear hp0 hWe HPA hw1
 go_wp2_with (first
  | (go_at_call 14; refine (HPr.out _ _ hb0 HP0.out).mono ?_; rintro e w1 ⟨rfl,b1⟩)
  | (go_at_call 15; refine (HPs.out _ (below_step hb0 b1)).mono ?_; rintro e w2 ⟨a,c,rfl,HQ,b2⟩)
  | (go_at_call 16; refine (HSm.out _ _ _ HQ.out ((HP0.out.below (below_step b1 b2)).up (below_step b1 b2).size)).mono ?_; rintro e w3 ⟨rfl,b3⟩))
 go_ret
 exact ⟨rfl,below_step hb0 (below_step b1 (below_step b2 b3))⟩

end Go.Proofs.YtfaokaohhchdhaaDoor
