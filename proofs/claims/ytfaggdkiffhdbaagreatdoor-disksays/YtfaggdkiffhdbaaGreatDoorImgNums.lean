/- numbersOf: the numbers of a line; the next line's, by the program. -/
import Derived.Test.YtfaggdkiffhdbaaGreatDoorImgLine
import Derived.Lib.AtoiAllCases
namespace Go.Proofs.YtfaggdkiffhdbaaGreatDoor
open Go.RowKit Go.Maps

theorem splitC_short (c : UInt8) : ∀ (l : List UInt8),∀ x ∈ splitC c l,x.length≤l.length
 | [],x,hx => by simp [splitC] at hx; subst hx; simp
 | b :: l,x,hx => by
  have ih:=splitC_short c l
  obtain ⟨y,ys,e⟩:=splitC_cons c l
  unfold splitC at hx
  rw [e] at ih hx
  split at hx
  ·rcases List.mem_cons.1 hx with rfl | hx
   ·simp
   ·have:=ih x hx; simp; omega
  ·simp only [List.headD_cons,List.tail_cons] at hx
   rcases List.mem_cons.1 hx with rfl | hx
   ·have:=ih y (by simp); simp; omega
   ·have:=ih x (by simp [hx]); simp; omega

theorem splitC_many (c : UInt8) : ∀ (l : List UInt8),(splitC c l).length≤l.length + 1
 | [] => by simp [splitC]
 | b :: l => by
  have ih:=splitC_many c l
  obtain ⟨y,ys,e⟩:=splitC_cons c l
  unfold splitC
  rw [e] at ih ⊢
  split
  ·simp at ih ⊢; omega
  ·simp at ih ⊢; omega

theorem piece_small {c : UInt8} {s : ByteArray} {k : Nat} {p : ByteArray} (h : (piecesB c s)[k]?=some p) : p.size≤s.size:=by
 have h1 : p.data.toList ∈ splitC c s.data.toList:=by
  rw [← piecesB_data]
  exact List.mem_map.2 ⟨p,List.mem_of_getElem? h,rfl⟩
 have:=splitC_short c _ _ h1
 simpa using this

theorem pieces_many (c : UInt8) (s : ByteArray) : (piecesB c s).length≤s.size + 1:=by
 have h:=splitC_many c s.data.toList
 rw [← piecesB_data,List.length_map] at h
 simpa using h

/-- The first k pieces,as numbers. -/
def numsTo (ps : List ByteArray) (k : Nat) : List Int:=(ps.take k).map fun p => atoiV p.data.toList

theorem numsTo_succ {ps : List ByteArray} {k : Nat} {p : ByteArray} (h : ps[k]?=some p) : numsTo ps (k + 1)=numsTo ps k ++ [atoiV p.data.toList]:=by
 unfold numsTo
 rw [List.take_add_one,h]
 simp

theorem numsOf_good {s : ByteArray} (h : ∀ (k : Nat) (p : ByteArray),(piecesB 32 s)[k]?=some p→numOK p.data.toList=true) : numsOf s.data.toList=numsTo (piecesB 32 s) (piecesB 32 s).length:=by
 unfold numsOf numsTo
 rw [← piecesB_data,if_pos]
 ·rw [List.map_map,List.take_length]; rfl
 ·rw [List.all_eq_true]
  intro x hx
  obtain ⟨p,hp,rfl⟩:=List.mem_map.1 hx
  obtain ⟨k,hk⟩:=List.getElem?_of_mem hp
  exact h k p hk

theorem numsOf_bad {s : ByteArray} {k : Nat} {p : ByteArray} (h : (piecesB 32 s)[k]?=some p) (hb : numOK p.data.toList=false) : numsOf s.data.toList=[]:=by
 unfold numsOf
 rw [← piecesB_data,if_neg]
 intro ha
 have:=List.all_eq_true.1 ha p.data.toList (List.mem_map.2 ⟨p,List.mem_of_getElem? h,rfl⟩)
 rw [hb] at this
 cases this

theorem IS.base {B C : Nat} {w : World} {v : Value} {l : List Int} (h : IS B w v l) (hC : C≤B) : IS C w v l:=by
 unfold IS at *
 refine ⟨h.1,?_⟩
 rcases h.2 with ⟨rfl,h0⟩ | ⟨g,cap,cur,rfl,h1,h2,h3⟩
 ·exact Or.inl ⟨rfl,h0⟩
 ·exact Or.inr ⟨g,cap,cur,rfl,by omega,h2,h3⟩

set_option maxRecDepth 20000 in
set_option maxHeartbeats 4000000 in
/-- The numbers of a line. -/
theorem numbersOf (N : Nat) (s : ByteArray) (hs : s.size≤100000) (w : World) (hN : N≤w.heap.size) (he : NEnv N w) :
  Calls Tryz.prog 47 #[.string s] w fun e w' => ∃ v,e=.returned v∧Hid (IS w.heap.size w' v (numsOf s.data.toList))∧Hid (Below w.heap.size w w'):=by
 have HE : Hid (NEnv N w):=he
 have HSp : Hid (Calls Tryz.prog 64 #[.string s,.string ⟨#[32]⟩] w fun e w' => e=.returned (.slice (some ⟨w.heap.size,0,none⟩) (piecesB 32 s).length (piecesB 32 s).length)∧w'=w.alloc (.cells ((piecesB 32 s).map Value.string).toArray 9)):=nsplit N 32 s (by omega) w he
 have HGood : Hid ((∀ (k : Nat) (p : ByteArray),(piecesB 32 s)[k]?=some p→numOK p.data.toList=true)→numsOf s.data.toList=numsTo (piecesB 32 s) (piecesB 32 s).length):=numsOf_good
 have HBad : Hid (∀ (k : Nat) (p : ByteArray),(piecesB 32 s)[k]?=some p→numOK p.data.toList=false→numsOf s.data.toList=[]):=fun k p h hb => numsOf_bad h hb
 have HSm : Hid (∀ (k : Nat) (p : ByteArray),(piecesB 32 s)[k]?=some p→p.size≤100000):=fun k p h => Nat.le_trans (piece_small h) hs
 have hmany : (piecesB 32 s).length≤100001:=Nat.le_trans (pieces_many 32 s) (by omega)
 generalize hps : piecesB 32 s=ps at *
 obtain ⟨m,hm⟩ : ∃ m,ps.length=m:=⟨_,rfl⟩
 have HM : Hid (ps.length=m):=hm
 rw [hm] at HSp hmany
 have hbW:=below_alloc w (.cells (ps.map Value.string).toArray 9)
 have HCell : Hid (∀ w1,Below (w.alloc (.cells (ps.map Value.string).toArray 9)).heap.size (w.alloc (.cells (ps.map Value.string).toArray 9)) w1→∀ (k : Nat) (p : ByteArray),ps[k]?=some p→w1.cell? ⟨w.heap.size,k,none⟩=some (.string p)):=fun w1 hb k p hk =>
  box_in hb k (by simp [hk])
 clear he hps hm
 go_enter Tryz.func47,Tryz.ntmps47
 go_upto_region 3 with (first
  | (go_at_call 64; refine HSp.out.mono ?_; rintro e w1 ⟨rfl,h1⟩; rw [h1]; clear h1))
 have hszW : (w.alloc (.cells (ps.map Value.string).toArray 9)).heap.size=w.heap.size + 1:=by simp
 generalize hWe : w.alloc (.cells (ps.map Value.string).toArray 9)=W at *
 clear hWe HSp
 go_loopw [3,11] (fun q i wr => ∃ k : Nat,k≤m∧i=.int .i64 k∧Hid (IS W.heap.size wr q (numsTo ps k))∧Hid (∀ (x : Nat) (p : ByteArray),x < k→ps[x]?=some p→numOK p.data.toList=true)∧Hid (Below W.heap.size W wr)) (fun _ i _ => m - (intOf i).toNat)
 case atStart => exact ⟨0,by omega,rfl,IS.nil _ _,fun x p hx => absurd hx (Nat.not_lt_zero _),Below.refl _ _⟩
 case round =>
  obtain ⟨k,hk0,rfl,HW,HA,HB⟩:=hrel
  have hsz:=HB.out.size
  have hwr : w.heap.size < wr.heap.size:=by omega
  have HBw : Hid (Below w.heap.size w wr):=hbW.trans (HB.out.mono (by omega))
  by_cases hk : k < m
  ·obtain ⟨p,hp⟩ : ∃ p,ps[k]?=some p:=⟨ps[k]'(by rw [HM.out]; exact hk),by simp⟩
   have q0:=HCell.out wr HB.out k p hp
   have hki : (k : Int) < (m : Int):=by omega
   have hpz:=HSm.out k p hp
   have HPk : Hid (ps[k]?=some p):=hp
   have HEr : Hid (∀ wi,Below wr.heap.size wr wi→NEnv N wi):=fun wi hb => HE.out.below ((HBw.out.trans (hb.mono (by omega))).mono hN)
   cases ha : Lib.atoiAll p.data.toList with
   | ok v =>
    have hv : i64 v:=Lib.atoiAll_bounds ha
    have HAt : Hid (Calls Tryz.prog 65 #[.string p] wr fun e w' => e=.returned (.tuple #[.int .i64 v,.nilIface])∧Below wr.heap.size wr w'):=natoi_ok p (by omega) v ha wr
    have HIt : Hid (∀ wi,Below wr.heap.size wr wi→Calls Tryz.prog 38 #[.int .i64 v] wi fun e w' => e=.returned (.string (bs (Lib.itoa v)))∧Below wi.heap.size wi w'):=fun wi hb => nitoa N v hv wi (HEr.out wi hb)
    have HVv : Hid (atoiV p.data.toList=v):=by show _=_; unfold atoiV; rw [ha]
    have HOK : Hid (numOK p.data.toList=decide (Lib.itoa v=p.data.toList)):=by show _=_; unfold numOK; rw [ha]
    have heq : ((bs (Lib.itoa v)).toList == p.toList)=decide (Lib.itoa v=p.data.toList):=by
     rw [ByteArray.toList_eq,ByteArray.toList_eq,bs_data,Bool.eq_iff_iff]; simp
    clear ha hv hp
    cases hd : decide (Lib.itoa v=p.data.toList) with
    | true =>
     rw [hd] at heq HOK
     have HNx : Hid (numsTo ps (k + 1)=numsTo ps k ++ [v]):=by show _=_; rw [numsTo_succ HPk.out,HVv.out]
     have hlen : (numsTo ps k).length + 1≤100000000:=by
      unfold numsTo; rw [List.length_map,List.length_take]; omega
     have HLen : Hid ((numsTo ps k).length + 1≤100000000):=hlen
     clear hd hlen
     go_wp2_with (first
      | (go_at_call 65; refine HAt.out.mono ?_; rintro e w2 ⟨rfl,b2⟩)
      | (go_at_call 38; refine (HIt.out _ b2).mono ?_; rintro e w3 ⟨rfl,b3⟩; have b23 : Below wr.heap.size wr w3:=below_step b2 b3; have HI3 : Hid (IS W.heap.size w3 u3 (numsTo ps k)):=HW.out.keep b23; have hW3 : W.heap.size≤w3.heap.size:=Nat.le_trans hsz b23.size)
      | (at_builtin; refine append_num w3 rfl _ _ rfl W.heap.size u3 _ v rfl HI3.out _ _ rfl rfl HLen.out hW3 ?_; intro v4 w4 hI4 hB4))
     go_roundw
     case rel =>
      refine ⟨k + 1,by omega,by go_num,(by show IS _ _ _ _; rw [HNx.out]; exact hI4),fun x p' hx hp' => ?_,(HB.out.trans (b23.mono hsz)).trans hB4⟩
      by_cases e : x=k
      ·subst e
       rw [HPk.out] at hp'
       cases hp'
       exact HOK.out
      ·exact HA.out x p' (by omega) hp'
     case measure => simp [intOf]; omega
    | false =>
     rw [hd] at heq HOK
     have HNx : Hid (numsOf s.data.toList=[]):=HBad.out k p HPk.out HOK.out
     clear hd
     go_wp2_with (first
      | (go_at_call 65; refine HAt.out.mono ?_; rintro e w2 ⟨rfl,b2⟩)
      | (go_at_call 38; refine (HIt.out _ b2).mono ?_; rintro e w3 ⟨rfl,b3⟩))
     go_ret
     exact ⟨_,rfl,(by show IS _ _ _ _; rw [HNx.out]; exact IS.nil _ _),HBw.out.trans ((below_step b2 b3).mono (by omega))⟩
   | «syntax» =>
    have HAt : Hid (Calls Tryz.prog 65 #[.string p] wr fun e w' => ∃ z t x,e=.returned (.tuple #[.int .i64 z,.iface t x])∧Below wr.heap.size wr w'):=natoi_bad N p (by omega) (fun v h => by rw [ha] at h; cases h) wr (HEr.out wr (Below.refl _ _))
    have HNx : Hid (numsOf s.data.toList=[]):=HBad.out k p HPk.out (by unfold numOK; rw [ha])
    clear ha hp
    go_wp2_with (first
     | (go_at_call 65; refine HAt.out.mono ?_; rintro e w2 ⟨z,t,x,rfl,b2⟩))
    go_ret
    exact ⟨_,rfl,(by show IS _ _ _ _; rw [HNx.out]; exact IS.nil _ _),HBw.out.trans (b2.mono (by omega))⟩
   | range =>
    have HAt : Hid (Calls Tryz.prog 65 #[.string p] wr fun e w' => ∃ z t x,e=.returned (.tuple #[.int .i64 z,.iface t x])∧Below wr.heap.size wr w'):=natoi_bad N p (by omega) (fun v h => by rw [ha] at h; cases h) wr (HEr.out wr (Below.refl _ _))
    have HNx : Hid (numsOf s.data.toList=[]):=HBad.out k p HPk.out (by unfold numOK; rw [ha])
    clear ha hp
    go_wp2_with (first
     | (go_at_call 65; refine HAt.out.mono ?_; rintro e w2 ⟨z,t,x,rfl,b2⟩))
    go_ret
    exact ⟨_,rfl,(by show IS _ _ _ _; rw [HNx.out]; exact IS.nil _ _),HBw.out.trans (b2.mono (by omega))⟩
  ·obtain rfl : k=m:=by omega
   have HNx : Hid (numsOf s.data.toList=numsTo ps k):=by
    show _=_
    rw [HGood.out fun x p hp => HA.out x p (by have:=(List.getElem?_eq_some_iff.1 hp).1; have:=HM.out; omega) hp,HM.out]
   go_wp2_with fail
   go_ret
   exact ⟨_,rfl,(by show IS _ _ _ _; rw [HNx.out]; exact HW.out.base (by omega)),HBw.out⟩

end Go.Proofs.YtfaggdkiffhdbaaGreatDoor
