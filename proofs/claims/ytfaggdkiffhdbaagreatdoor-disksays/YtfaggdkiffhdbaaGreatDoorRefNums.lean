/- numbers of the reckoning: the numbers of a line. -/
import Derived.Test.YtfaggdkiffhdbaaGreatDoorImgNums
import Derived.Lib.ParseIntBTie
namespace Go.Proofs.YtfaggdkiffhdbaaGreatDoor
open Go.RowKit Go.Maps

/-- strconv.FormatInt. -/
theorem nformat (N : Nat) (z : Int) (h : i64 z) (w : World) (he : NEnv N w) :
  Calls Tryz.prog 70 #[.int .i64 z,.int .i64 10] w fun e w' => e=.returned (.string (bs (Lib.itoa z)))∧Below w.heap.size w w':=by
 refine (Tryz.strconv_FormatInt_10 z h.1 h.2 w he.pow).mono ?_
 rintro e w' ⟨rfl,k,os,rfl⟩
 exact ⟨rfl,nbelow_grow w k os⟩

/-- strconv.ParseInt of a numeral. -/
theorem nparse_ok (s : ByteArray) (hs : s.size≤1000000) (v : Int) (h : Lib.atoiAll s.data.toList=.ok v) (w : World) :
  Calls Tryz.prog 69 #[.string s,.int .i64 10,.int .i64 64] w fun e w' => e=.returned (.tuple #[.int .i64 v,.nilIface])∧Below w.heap.size w w':=by
 refine (Tryz.strconv_ParseInt_10_at64_ok s (by omega) v (by rw [Lib.parseIntB_64]; exact h) w).mono ?_
 rintro e w' ⟨rfl,rfl | ⟨t,rfl⟩⟩
 ·exact ⟨rfl,Below.refl _ _⟩
 ·exact ⟨rfl,Lib.bytesWorld_below _ _ _⟩

/-- .. of what is none. -/
theorem nparse_bad (N : Nat) (s : ByteArray) (hs : s.size≤1000000) (h : ∀ v,¬ Lib.atoiAll s.data.toList=.ok v) (w : World) (he : NEnv N w) :
  Calls Tryz.prog 69 #[.string s,.int .i64 10,.int .i64 64] w fun e w' => ∃ z t p,e=.returned (.tuple #[.int .i64 z,.iface t p])∧Below w.heap.size w w':=by
 cases h0 : Lib.atoiAll s.data.toList with
 | ok v => exact absurd h0 (h v)
 | «syntax» =>
  obtain ⟨tp,p,hv⟩:=he.syn
  refine (Tryz.strconv_ParseInt_10_at64_syntax_var s (by omega) (by rw [Lib.parseIntB_64]; exact h0) tp p w hv).mono ?_
  rintro e w' ⟨n,rfl,_,_,hb⟩
  exact ⟨_,_,_,rfl,hb⟩
 | range =>
  obtain ⟨tp,p,hv⟩:=he.rng
  refine (Tryz.strconv_ParseInt_10_at64_range_var s (by omega) (by rw [Lib.parseIntB_64]; exact h0) tp p w hv).mono ?_
  rintro e w' ⟨n,rfl,_,_,hb⟩
  exact ⟨_,_,_,rfl,hb⟩

set_option maxRecDepth 20000 in
set_option maxHeartbeats 4000000 in
/-- The numbers of a line. -/
theorem rNumbers (N : Nat) (s : ByteArray) (hs : s.size≤100000) (w : World) (hN : N≤w.heap.size) (he : NEnv N w) :
  Calls Tryz.prog 50 #[.string s] w fun e w' => ∃ v,e=.returned (.tuple #[v,.bool (!(numsOf s.data.toList).isEmpty)])∧Hid (IS w.heap.size w' v (numsOf s.data.toList))∧Hid (Below w.heap.size w w'):=by
 have HE : Hid (NEnv N w):=he
 have HSp : Hid (Calls Tryz.prog 64 #[.string s,.string ⟨#[32]⟩] w fun e w' => e=.returned (.slice (some ⟨w.heap.size,0,none⟩) (piecesB 32 s).length (piecesB 32 s).length)∧w'=w.alloc (.cells ((piecesB 32 s).map Value.string).toArray 9)):=nsplit N 32 s (by omega) w he
 have HGood : Hid ((∀ (k : Nat) (p : ByteArray),(piecesB 32 s)[k]?=some p→numOK p.data.toList=true)→numsOf s.data.toList=numsTo (piecesB 32 s) (piecesB 32 s).length):=numsOf_good
 have HBad : Hid (∀ (k : Nat) (p : ByteArray),(piecesB 32 s)[k]?=some p→numOK p.data.toList=false→numsOf s.data.toList=[]):=fun k p h hb => numsOf_bad h hb
 have HSm : Hid (∀ (k : Nat) (p : ByteArray),(piecesB 32 s)[k]?=some p→p.size≤100000):=fun k p h => Nat.le_trans (piece_small h) hs
 have hmany : (piecesB 32 s).length≤100001:=Nat.le_trans (pieces_many 32 s) (by omega)
 have HPos : Hid (0 < (piecesB 32 s).length):=(by show 0 < _; rw [piecesB_len]; omega)
 generalize hps : piecesB 32 s=ps at *
 obtain ⟨m,hm⟩ : ∃ m,ps.length=m:=⟨_,rfl⟩
 have HM : Hid (ps.length=m):=hm
 rw [hm] at HSp hmany HPos
 have hbW:=below_alloc w (.cells (ps.map Value.string).toArray 9)
 have HCell : Hid (∀ w1,Below (w.alloc (.cells (ps.map Value.string).toArray 9)).heap.size (w.alloc (.cells (ps.map Value.string).toArray 9)) w1→∀ (k : Nat) (p : ByteArray),ps[k]?=some p→w1.cell? ⟨w.heap.size,k,none⟩=some (.string p)):=fun w1 hb k p hk =>
  box_in hb k (by simp [hk])
 clear he hps hm
 go_enter Tryz.func50,Tryz.ntmps50
 go_upto_region 3 with (first
  | (go_at_call 64; refine HSp.out.mono ?_; rintro e w1 ⟨rfl,h1⟩; rw [h1]; clear h1))
 have hszW : (w.alloc (.cells (ps.map Value.string).toArray 9)).heap.size=w.heap.size + 1:=by simp
 generalize hWe : w.alloc (.cells (ps.map Value.string).toArray 9)=W at *
 clear hWe HSp
 go_loopw [4,12] (fun q i wr => ∃ k : Nat,k≤m∧i=.int .i64 k∧Hid (IS W.heap.size wr q (numsTo ps k))∧Hid (∀ (x : Nat) (p : ByteArray),x < k→ps[x]?=some p→numOK p.data.toList=true)∧Hid (Below W.heap.size W wr)) (fun _ i _ => m - (intOf i).toNat)
 case atStart => exact ⟨0,by omega,rfl,IS.nil _ _,fun x p hx => absurd hx (Nat.not_lt_zero _),Below.refl _ _⟩
 case round =>
  obtain ⟨k,hk0,rfl,HW,HA,HB⟩:=hrel
  have hsz:=HB.out.size
  have hwr : w.heap.size < wr.heap.size:=by omega
  have HBw : Hid (Below w.heap.size w wr):=hbW.trans (HB.out.mono (by omega))
  by_cases hk : k < m
  ·obtain ⟨p,hp⟩ : ∃ p,ps[k]?=some p:=⟨ps[k]'(by rw [HM.out]; exact hk),by simp⟩
   have q0:=HCell.out wr HB.out k p hp
   have hki : (k : Int) < (m : Int):=by omega
   have hpz:=HSm.out k p hp
   have HPk : Hid (ps[k]?=some p):=hp
   have HEr : Hid (∀ wi,Below wr.heap.size wr wi→NEnv N wi):=fun wi hb => HE.out.below ((HBw.out.trans (hb.mono (by omega))).mono hN)
   cases ha : Lib.atoiAll p.data.toList with
   | ok v =>
    have hv : i64 v:=Lib.atoiAll_bounds ha
    have HAt : Hid (Calls Tryz.prog 69 #[.string p,.int .i64 10,.int .i64 64] wr fun e w' => e=.returned (.tuple #[.int .i64 v,.nilIface])∧Below wr.heap.size wr w'):=nparse_ok p (by omega) v ha wr
    have HIt : Hid (∀ wi,Below wr.heap.size wr wi→Calls Tryz.prog 70 #[.int .i64 v,.int .i64 10] wi fun e w' => e=.returned (.string (bs (Lib.itoa v)))∧Below wi.heap.size wi w'):=fun wi hb => nformat N v hv wi (HEr.out wi hb)
    have HVv : Hid (atoiV p.data.toList=v):=by show _=_; unfold atoiV; rw [ha]
    have HOK : Hid (numOK p.data.toList=decide (Lib.itoa v=p.data.toList)):=by show _=_; unfold numOK; rw [ha]
    have heq : ((bs (Lib.itoa v)).toList == p.toList)=decide (Lib.itoa v=p.data.toList):=by
     rw [ByteArray.toList_eq,ByteArray.toList_eq,bs_data,Bool.eq_iff_iff]; simp
    clear ha hv hp
    cases hd : decide (Lib.itoa v=p.data.toList) with
    | true =>
     rw [hd] at heq HOK
     have HNx : Hid (numsTo ps (k + 1)=numsTo ps k ++ [v]):=by show _=_; rw [numsTo_succ HPk.out,HVv.out]
     have hlen : (numsTo ps k).length + 1≤100000000:=by
      unfold numsTo; rw [List.length_map,List.length_take]; omega
     have HLen : Hid ((numsTo ps k).length + 1≤100000000):=hlen
     clear hd hlen
     go_wp2_with (first
      | (go_at_call 69; refine HAt.out.mono ?_; rintro e w2 ⟨rfl,b2⟩)
      | (go_at_call 70; refine (HIt.out _ b2).mono ?_; rintro e w3 ⟨rfl,b3⟩; have b23 : Below wr.heap.size wr w3:=below_step b2 b3; have HI3 : Hid (IS W.heap.size w3 u4 (numsTo ps k)):=HW.out.keep b23; have hW3 : W.heap.size≤w3.heap.size:=Nat.le_trans hsz b23.size)
      | (at_builtin; refine append_num w3 rfl _ _ rfl W.heap.size u4 _ v rfl HI3.out _ _ rfl rfl HLen.out hW3 ?_; intro v4 w4 hI4 hB4))
     go_roundw
     case rel =>
      refine ⟨k + 1,by omega,by go_num,(by show IS _ _ _ _; rw [HNx.out]; exact hI4),fun x p' hx hp' => ?_,(HB.out.trans (b23.mono hsz)).trans hB4⟩
      by_cases e : x=k
      ·subst e
       rw [HPk.out] at hp'
       cases hp'
       exact HOK.out
      ·exact HA.out x p' (by omega) hp'
     case measure => simp [intOf]; omega
    | false =>
     rw [hd] at heq HOK
     have HNx : Hid (numsOf s.data.toList=[]):=HBad.out k p HPk.out HOK.out
     clear hd
     go_wp2_with (first
      | (go_at_call 69; refine HAt.out.mono ?_; rintro e w2 ⟨rfl,b2⟩)
      | (go_at_call 70; refine (HIt.out _ b2).mono ?_; rintro e w3 ⟨rfl,b3⟩))
     go_ret2
     exact ⟨_,(by rw [HNx.out]; rfl),(by show IS _ _ _ _; rw [HNx.out]; exact IS.nil _ _),HBw.out.trans ((below_step b2 b3).mono (by omega))⟩
   | «syntax» =>
    have HAt : Hid (Calls Tryz.prog 69 #[.string p,.int .i64 10,.int .i64 64] wr fun e w' => ∃ z t x,e=.returned (.tuple #[.int .i64 z,.iface t x])∧Below wr.heap.size wr w'):=nparse_bad N p (by omega) (fun v h => by rw [ha] at h; cases h) wr (HEr.out wr (Below.refl _ _))
    have HNx : Hid (numsOf s.data.toList=[]):=HBad.out k p HPk.out (by unfold numOK; rw [ha])
    clear ha hp
    go_wp2_with (first
     | (go_at_call 69; refine HAt.out.mono ?_; rintro e w2 ⟨z,t,x,rfl,b2⟩))
    go_ret2
    exact ⟨_,(by rw [HNx.out]; rfl),(by show IS _ _ _ _; rw [HNx.out]; exact IS.nil _ _),HBw.out.trans (b2.mono (by omega))⟩
   | range =>
    have HAt : Hid (Calls Tryz.prog 69 #[.string p,.int .i64 10,.int .i64 64] wr fun e w' => ∃ z t x,e=.returned (.tuple #[.int .i64 z,.iface t x])∧Below wr.heap.size wr w'):=nparse_bad N p (by omega) (fun v h => by rw [ha] at h; cases h) wr (HEr.out wr (Below.refl _ _))
    have HNx : Hid (numsOf s.data.toList=[]):=HBad.out k p HPk.out (by unfold numOK; rw [ha])
    clear ha hp
    go_wp2_with (first
     | (go_at_call 69; refine HAt.out.mono ?_; rintro e w2 ⟨z,t,x,rfl,b2⟩))
    go_ret2
    exact ⟨_,(by rw [HNx.out]; rfl),(by show IS _ _ _ _; rw [HNx.out]; exact IS.nil _ _),HBw.out.trans (b2.mono (by omega))⟩
  ·obtain rfl : k=m:=by omega
   have HNx : Hid (numsOf s.data.toList=numsTo ps k):=by
    show _=_
    rw [HGood.out fun x p hp => HA.out x p (by have:=(List.getElem?_eq_some_iff.1 hp).1; have:=HM.out; omega) hp,HM.out]
   have HNe : Hid ((numsOf s.data.toList).isEmpty=false):=by
    show _=_
    rw [HNx.out,List.isEmpty_eq_false_iff]
    intro e
    have:=congrArg List.length e
    unfold numsTo at this
    rw [List.length_map,List.length_take,HM.out,Nat.min_self] at this
    have:=HPos.out
    simp at *
    omega
   go_wp2_with fail
   go_ret2
   exact ⟨_,(by rw [HNe.out]; rfl),(by show IS _ _ _ _; rw [HNx.out]; exact HW.out.base (by omega)),HBw.out⟩

end Go.Proofs.YtfaggdkiffhdbaaGreatDoor
