/- addLine: a line of numbers behind a text, by the program. -/
import Derived.Test.YtfaggdkiffhdbaaGreatDoorImgEnv
import Derived.OwnWalk
namespace Go.Proofs.YtfaggdkiffhdbaaGreatDoor
open Go.RowKit Go.Maps

/-- The first k numbers of a line. -/
def lnTo (zs : List Int) : Nat→List UInt8
 | 0 => []
 | k + 1 => (if k=0 then lnTo zs k else lnTo zs k ++ [32]) ++ Lib.itoa (zs.getD k 0)

theorem lnTo_take : ∀ (zs : List Int) (k : Nat),k≤zs.length→lnTo zs k=lineL (zs.take k)
 | zs,0,_ => rfl
 | zs,k + 1,h => by
  have ih:=lnTo_take zs k (by omega)
  have hk : zs[k]?=some (zs.getD k 0):=by simp [show k < zs.length by omega]
  rw [lnTo,ih,List.take_add_one,hk]
  unfold lineL
  cases k with
  | zero => simp [Lib.join_nil,Lib.join_one]
  | succ k =>
   cases zs with
   | nil => simp at h
   | cons z zs =>
    rw [if_neg (by omega)]
    simp only [List.take_succ_cons,List.map_cons,List.cons_append,List.map_append,Option.toList_some,List.map_nil]
    rw [Lib.join_cons,Lib.join_cons]
    simp [Lib.joinTail,List.append_assoc]

theorem lnTo_all (zs : List Int) : lnTo zs zs.length=lineL zs:=by rw [lnTo_take zs _ (Nat.le_refl _),List.take_length]

theorem lnTo_len {zs : List Int} (h : ∀ z ∈ zs,i64 z) : ∀ k,k≤zs.length→(lnTo zs k).length≤22 * k
 | 0,_ => by simp [lnTo]
 | k + 1,hk => by
  have ih:=lnTo_len h k (by omega)
  have hz:=h (zs.getD k 0) (by simp [show k < zs.length by omega])
  have hl:=Lib.itoa_length_le (zs.getD k 0) hz.1 hz.2
  rw [lnTo]
  split
  ·rw [List.length_append]; omega
  ·rw [List.length_append,List.length_append]; simp only [List.length_cons,List.length_nil]; omega

set_option maxHeartbeats 2000000 in
/-- numbers.Add: a row of numbers behind a text. -/
theorem numAdd (N B C : Nat) (hNB : N≤B) (v nv : Value) (l : List UInt8) (zs : List Int) (w : World) (hB : B≤w.heap.size) (he : NEnv N w) (hv : BS B w v l) (hn : IS C w nv zs) (hz : ∀ z ∈ zs,i64 z) (hl : l.length≤10000000) (hzl : zs.length≤100000) :
  Calls Tryz.prog 29 #[v,nv] w fun e w' => ∃ v',e=.returned v'∧Hid (BS B w' v' (l ++ lineL zs))∧Hid (KB B w w'):=by
 have HE : Hid (NEnv N w):=he
 have HV : Hid (BS B w v l):=hv
 have HN : Hid (IS C w nv zs):=hn
 have HZ : Hid (∀ z ∈ zs,i64 z):=hz
 obtain ⟨an,cn,rfl⟩:=hn.shape
 obtain ⟨n,hnn⟩ : ∃ n,zs.length=n:=⟨_,rfl⟩
 have HL : Hid (zs.length=n):=hnn
 rw [hnn] at HN hzl ⊢
 clear he hv hn hz hnn
 go_enter Tryz.func29,Tryz.ntmps29
 go_upto_region 2 with (fail)
 go_loopw [0,9] (fun q i wr => ∃ k : Nat,k≤n∧i=.int .i64 k∧Hid (BS B wr q (l ++ lnTo zs k))∧Hid (KB B w wr)) (fun _ i _ => n - (intOf i).toNat)
 case atStart => exact ⟨0,by omega,rfl,(by show BS _ _ _ _; rw [lnTo,List.append_nil]; exact HV.out),KB.refl _ _⟩
 case round =>
  obtain ⟨k,hk0,rfl,HW,HK⟩:=hrel
  have hBr : B≤wr.heap.size:=Nat.le_trans hB HK.out.1.size
  have HEr : Hid (NEnv N wr):=HE.out.below (HK.out.1.mono hNB)
  have hlen : (l ++ lnTo zs k).length + 100≤100000000:=by
   have:=lnTo_len HZ.out k (by rw [HL.out]; omega)
   rw [List.length_append]; omega
  by_cases hk : k < n
  ·obtain ⟨a1,c1,e1,h1⟩:=(HN.out.kept HK.out).at
   injection e1 with ea eb ec
   subst ea
   clear eb ec
   obtain ⟨g,rfl,hgC,hg,hcell⟩ : ∃ g,an=some ⟨g,0,none⟩∧C≤g∧g < wr.heap.size∧∀ i z,zs[i]?=some z→wr.cell? ⟨g,i,none⟩=some (.int .i64 z):=by
    rcases h1 with h | h
    ·rw [h] at HL; have:=HL.out; simp at this; omega
    ·exact h
   have hkz : zs[k]?=some (zs.getD k 0):=by have:=HL.out; simp [show k < zs.length by omega]
   have q0:=hcell k _ hkz
   have hzk:=HZ.out _ (List.mem_of_getElem? hkz)
   have hki : (k : Int) < (n : Int):=by omega
   have HZk : Hid (i64 (zs.getD k 0)):=hzk
   clear h1 hcell hgC hzk hkz
   generalize hzz : zs.getD k 0=z at *
   have HZZ : Hid (zs.getD k 0=z):=hzz
   clear hzz
   by_cases k0 : k=0
   ·have k0i : ¬ (k : Int) > 0:=by omega
    have HLn : Hid (lnTo zs (k + 1)=lnTo zs k ++ Lib.itoa z):=by show _=_; rw [lnTo,if_pos k0,HZZ.out]
    have HAp : Hid (Calls Tryz.prog 43 #[u0,.int .i64 z,.int .i64 10] wr fun e w' => ∃ v',e=.returned v'∧Hid (BS B w' v' ((l ++ lnTo zs k) ++ Lib.itoa z))∧KB B wr w'):=nappend N B hNB z HZk.out u0 _ wr hBr HEr.out HW.out (by omega)
    clear k0 hlen
    go_wp2_with (first
     | (go_at_call 43; refine HAp.out.mono ?_; rintro e w2 ⟨v2,rfl,HW2,hk2⟩))
    go_roundw
    case rel => exact ⟨k + 1,by omega,by go_num,(by show BS _ _ _ _; rw [HLn.out,← List.append_assoc]; exact HW2.out),HK.out.trans hk2⟩
    case measure => simp [intOf]; omega
   ·have k0i : (k : Int) > 0:=by omega
    have HLn : Hid (lnTo zs (k + 1)=(lnTo zs k ++ [32]) ++ Lib.itoa z):=by show _=_; rw [lnTo,if_neg k0,HZZ.out]
    have HAp : Hid (∀ v1 w1,BS B w1 v1 ((l ++ lnTo zs k) ++ [32])→KB B wr w1→Calls Tryz.prog 43 #[v1,.int .i64 z,.int .i64 10] w1 fun e w' => ∃ v',e=.returned v'∧Hid (BS B w' v' (((l ++ lnTo zs k) ++ [32]) ++ Lib.itoa z))∧KB B w1 w'):=fun v1 w1 hb hkb =>
     nappend N B hNB z HZk.out v1 _ w1 (Nat.le_trans hBr hkb.1.size) (HEr.out.below (hkb.1.mono hNB)) hb (by rw [List.length_append]; simp only [List.length_cons,List.length_nil]; omega)
    clear k0
    go_wp2_with (first
     | (at_builtin; refine append_byte wr rfl _ _ rfl B u0 _ 32 rfl HW.out _ _ rfl rfl (by omega) hBr ?_; intro v1 w1 hW1 hK1; have HA2:=HAp.out v1 w1 hW1 hK1; clear hW1)
     | (go_at_call 43; refine HA2.mono ?_; rintro e w2 ⟨v2,rfl,HW2,hk2⟩))
    go_roundw
    case rel => exact ⟨k + 1,by omega,by go_num,(by show BS _ _ _ _; rw [HLn.out,← List.append_assoc,← List.append_assoc]; exact HW2.out),HK.out.trans (hK1.trans hk2)⟩
    case measure => simp [intOf]; omega
  ·obtain rfl : k=n:=by omega
   have HLn : Hid (l ++ lineL zs=l ++ lnTo zs k):=by show _=_; rw [← lnTo_all,HL.out]
   go_wp2_with (fail)
   go_ret
   exact ⟨_,rfl,(by show BS _ _ _ _; rw [HLn.out]; exact HW.out),HK.out⟩

end Go.Proofs.YtfaggdkiffhdbaaGreatDoor
