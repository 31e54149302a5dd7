/- Numerals and tokens: what is written is read. No Go in it. -/
import Derived.Test.YtfaggdkiffhdbaaGreatDoorPart2
namespace Go.Proofs.YtfaggdkiffhdbaaGreatDoor
open Go.RowKit

theorem dig_toNat (d : Nat) (h : d < 10) : (UInt8.ofNat (48 + d)).toNat=48 + d:=by
 simp only [UInt8.toNat_ofNat']; omega

theorem parse_snoc (c : UInt8) : ∀ (l : List UInt8) (acc v : Nat),Lib.parseUint10 acc l=.ok v→Lib.parseUint10 acc (l ++ [c])=Lib.parseUint10 v [c]
 | [],acc,v,h => by simp only [Lib.parseUint10] at h; injection h with h; subst h; rfl
 | b :: l,acc,v,h => by
  simp only [Lib.parseUint10,List.cons_append] at h ⊢
  split at h
  ·next h1 =>
   rw [if_pos h1]
   split at h
   ·cases h
   ·next h2 =>
    rw [if_neg h2]
    split at h
    ·cases h
    ·next h3 =>
     rw [if_neg h3]
     exact parse_snoc c l _ v h
  ·cases h

theorem parse_digits (u : Nat) (hu : u < 18446744073709551616) : Lib.parseUint10 0 (Lib.decDigits u)=.ok u:=by
 induction u using Nat.strongRecOn with
 | _ u ih =>
  by_cases h : u < 10
  ·rw [Lib.decDigits_one h]
   simp only [Lib.parseUint10,dig_toNat u h]
   rw [if_pos (by omega),if_neg (by omega),if_neg (by omega)]
   congr 1; omega
  ·rw [Lib.decDigits,dif_neg h,parse_snoc _ _ _ _ (ih (u / 10) (by omega) (by omega))]
   simp only [Lib.parseUint10,dig_toNat (u % 10) (by omega)]
   rw [if_pos (by omega),if_neg (by omega),if_neg (by omega)]
   congr 1; omega

/-- A numeral's bytes are digits,and there is one. -/
theorem digits_are (u : Nat) : Lib.decDigits u ≠ []∧∀ c ∈ Lib.decDigits u,48≤c.toNat∧c.toNat≤57:=by
 induction u using Nat.strongRecOn with
 | _ u ih =>
  by_cases h : u < 10
  ·rw [Lib.decDigits_one h]
   refine ⟨by simp,fun c hc => ?_⟩
   rw [List.mem_singleton] at hc
   subst hc
   rw [dig_toNat u h]; omega
  ·rw [Lib.decDigits,dif_neg h]
   refine ⟨by simp,fun c hc => ?_⟩
   rcases List.mem_append.1 hc with hc | hc
   ·exact (ih (u / 10) (by omega)).2 c hc
   ·rw [List.mem_singleton] at hc
    subst hc
    rw [dig_toNat (u % 10) (by omega)]; omega

theorem itoa_bytes (z : Int) : ∃ c r,Lib.itoa z=c :: r∧(c.toNat=45∧r ≠ []∨48≤c.toNat∧c.toNat≤57)∧∀ b ∈ r,48≤b.toNat∧b.toNat≤57:=by
 unfold Lib.itoa
 split
 ·obtain ⟨h1,h2⟩:=digits_are z.natAbs
  exact ⟨45,_,rfl,Or.inl ⟨rfl,h1⟩,h2⟩
 ·obtain ⟨h1,h2⟩:=digits_are z.toNat
  cases h : Lib.decDigits z.toNat with
  | nil => exact absurd h h1
  | cons c r =>
   rw [h] at h2
   exact ⟨c,r,rfl,Or.inr (h2 c (by simp)),fun b hb => h2 b (by simp [hb])⟩

theorem atoi_itoa (z : Int) (h0 : -9223372036854775808≤z) (h1 : z≤9223372036854775807) : Lib.atoiAll (Lib.itoa z)=.ok z:=by
 unfold Lib.itoa
 split
 ·next hn =>
  obtain ⟨h2,_⟩:=digits_are z.natAbs
  have h3 : Lib.parseMag (Lib.decDigits z.natAbs)=.ok z.natAbs:=by
   unfold Lib.parseMag
   rw [if_neg h2,parse_digits _ (by omega)]
  unfold Lib.atoiAll
  simp only [show (45 : UInt8).toNat=45 from rfl,or_true,if_true,h3]
  rw [if_neg (by simp),if_neg (by omega)]
  have : -(z.natAbs : Int)=z:=by omega
  rw [this]
 ·next hn =>
  obtain ⟨h2,h4⟩:=digits_are z.toNat
  have h3 : Lib.parseMag (Lib.decDigits z.toNat)=.ok z.toNat:=by
   unfold Lib.parseMag
   rw [if_neg h2,parse_digits _ (by omega)]
  cases h : Lib.decDigits z.toNat with
  | nil => exact absurd h h2
  | cons c r =>
   rw [h] at h3 h4
   have hc:=h4 c (by simp)
   unfold Lib.atoiAll
   simp only []
   rw [if_neg (by omega),h3]
   simp only []
   rw [if_neg (by omega),if_neg (by omega),if_neg (by omega)]
   congr 1; omega

theorem atoiV_itoa {z : Int} (h0 : -9223372036854775808≤z) (h1 : z≤9223372036854775807) : atoiV (Lib.itoa z)=z:=by
 unfold atoiV; rw [atoi_itoa z h0 h1]

theorem kindOf_st : ∀ k : Nat,1≤k→k≤8→kindOf (bs (stL k))=k:=by
 intro k h1 h2
 have : k=1∨k=2∨k=3∨k=4∨k=5∨k=6∨k=7∨k=8:=by omega
 rcases this with rfl | rfl | rfl | rfl | rfl | rfl | rfl | rfl <;> decide

theorem kindOf_cb : kindOf cbW=0:=by decide

/-- An operation's word is none of the others. -/
theorem opOf_none {l : List UInt8} {c : UInt8} {r : List UInt8} (h : l=c :: r) (hc : (c.toNat=45∧r ≠ [])∨(48≤c.toNat∧c.toNat≤57)∨c.toNat=118∨c.toNat=46∨c.toNat=110∨c.toNat=102) : opOf (bs l)=none:=by
 subst h
 unfold opOf
 rw [List.find?_eq_none]
 intro k hk
 rw [decide_eq_true_iff]
 intro e
 have e:=bs_inj e
 have hk : k < 6:=List.mem_range.1 hk
 have : k=0∨k=1∨k=2∨k=3∨k=4∨k=5:=by omega
 rcases this with rfl | rfl | rfl | rfl | rfl | rfl <;> simp only [opL] at e
 ·cases e
 ·injection e with e1 e2; subst e1; simp at hc
 ·injection e with e1 e2; subst e1; subst e2; simp at hc
 ·injection e with e1 e2; subst e1; simp at hc
 ·injection e with e1 e2; subst e1; simp at hc
 ·injection e with e1 e2; subst e1; simp at hc

theorem hasMark_eq (w : Wd) : hasMark w 0=false∧hasMark w 1=false∧hasMark w 3=false∧hasMark w 2=[(118 : UInt8)].isPrefixOf w.data.toList∧hasMark w 4=[(46 : UInt8)].isPrefixOf w.data.toList∧hasMark w 5=[(110 : UInt8),101,119].isPrefixOf w.data.toList∧hasMark w 6=[(102 : UInt8)].isPrefixOf w.data.toList:=⟨rfl,rfl,rfl,rfl,rfl,rfl,rfl⟩

theorem tokOf_tokW {k z : Int} {nf : Nat} {locals : Int} (hl : locals≤6) (hn : nf≤1000) (h : tokErr k z nf locals=0) : tokOf (tokW k z)=(k,z):=by
 have hz : -9223372036854775808≤z∧z≤9223372036854775807:=by
  unfold tokErr at h
  repeat' split at h
  all_goals first | omega | cases h
 have hk : k=1∨k=2∨k=3∨k=4∨k=5∨k=6:=by
  unfold tokErr at h
  by_cases a1 : k=1
  ·omega
  by_cases a2 : k=2
  ·omega
  by_cases a3 : k=3
  ·omega
  by_cases a4 : k=4
  ·omega
  by_cases a5 : k=5
  ·omega
  by_cases a6 : k=6
  ·omega
  rw [if_neg a1,if_neg a2,if_neg a3,if_neg a4,if_neg a5,if_neg a6] at h
  cases h
 obtain ⟨c,r,e,hc,hr⟩:=itoa_bytes z
 have hat:=atoiV_itoa hz.1 hz.2
 rcases hk with rfl | rfl | rfl | rfl | rfl | rfl
 ·have e0 : tokW 1 z=bs (c :: r):=by unfold tokW; rw [if_neg (by decide),e]; rfl
  rw [e0]
  unfold tokOf
  rw [opOf_none rfl (hc.imp id fun h => Or.inl h)]
  have hm : markTo (bs (c :: r)) 7=1:=by
   obtain ⟨m0,m1,m3,m2,m4,m5,m6⟩:=hasMark_eq (bs (c :: r))
   have g2 : hasMark (bs (c :: r)) 2=false:=by
    rw [m2,bs_data]; simp only [List.isPrefixOf,Bool.and_true,beq_eq_false_iff_ne]; rintro rfl; simp at hc
   have g4 : hasMark (bs (c :: r)) 4=false:=by
    rw [m4,bs_data]; simp only [List.isPrefixOf,Bool.and_true,beq_eq_false_iff_ne]; rintro rfl; simp at hc
   have g5 : hasMark (bs (c :: r)) 5=false:=by
    rw [m5,bs_data]; simp only [List.isPrefixOf,Bool.and_eq_false_iff,beq_eq_false_iff_ne]; left; rintro rfl; simp at hc
   have g6 : hasMark (bs (c :: r)) 6=false:=by
    rw [m6,bs_data]; simp only [List.isPrefixOf,Bool.and_true,beq_eq_false_iff_ne]; rintro rfl; simp at hc
   simp [markTo,m0,m1,g2,m3,g4,g5,g6]
  simp only [hm]
  rw [bs_data,← e]
  show ((1 : Int),atoiV (Lib.itoa z))=_
  rw [hat]
 ·have e0 : tokW 2 z=bs (118 :: Lib.itoa z):=rfl
  rw [e0]
  unfold tokOf
  rw [opOf_none rfl (by simp)]
  have hm : markTo (bs (118 :: Lib.itoa z)) 7=2:=by
   obtain ⟨m0,m1,m3,m2,m4,m5,m6⟩:=hasMark_eq (bs (118 :: Lib.itoa z))
   have g2 : hasMark (bs (118 :: Lib.itoa z)) 2=true:=by rw [m2,bs_data]; simp [List.isPrefixOf]
   have g4 : hasMark (bs (118 :: Lib.itoa z)) 4=false:=by rw [m4,bs_data]; simp [List.isPrefixOf]
   have g5 : hasMark (bs (118 :: Lib.itoa z)) 5=false:=by rw [m5,bs_data]; simp [List.isPrefixOf]
   have g6 : hasMark (bs (118 :: Lib.itoa z)) 6=false:=by rw [m6,bs_data]; simp [List.isPrefixOf]
   simp [markTo,g2,m3,g4,g5,g6]
  simp only [hm]
  show ((2 : Int),atoiV (Lib.itoa z))=_
  rw [hat]
 ·have hz5 : z=1∨z=2∨z=3∨z=4∨z=5:=by
   unfold tokErr at h
   rw [if_neg (by decide),if_neg (by decide),if_pos rfl] at h
   split at h
   ·cases h
   ·omega
  rcases hz5 with rfl | rfl | rfl | rfl | rfl <;> decide
 ·have e0 : tokW 4 z=bs (46 :: Lib.itoa z):=rfl
  rw [e0]
  unfold tokOf
  rw [opOf_none rfl (by simp)]
  have hm : markTo (bs (46 :: Lib.itoa z)) 7=4:=by
   obtain ⟨m0,m1,m3,m2,m4,m5,m6⟩:=hasMark_eq (bs (46 :: Lib.itoa z))
   have g4 : hasMark (bs (46 :: Lib.itoa z)) 4=true:=by rw [m4,bs_data]; simp [List.isPrefixOf]
   have g5 : hasMark (bs (46 :: Lib.itoa z)) 5=false:=by rw [m5,bs_data]; simp [List.isPrefixOf]
   have g6 : hasMark (bs (46 :: Lib.itoa z)) 6=false:=by rw [m6,bs_data]; simp [List.isPrefixOf]
   simp [markTo,g4,g5,g6]
  simp only [hm]
  show ((4 : Int),atoiV (Lib.itoa z))=_
  rw [hat]
 ·have e0 : tokW 5 z=bs (110 :: 101 :: 119 :: Lib.itoa z):=rfl
  rw [e0]
  unfold tokOf
  rw [opOf_none rfl (by simp)]
  have hm : markTo (bs (110 :: 101 :: 119 :: Lib.itoa z)) 7=5:=by
   obtain ⟨m0,m1,m3,m2,m4,m5,m6⟩:=hasMark_eq (bs (110 :: 101 :: 119 :: Lib.itoa z))
   have g5 : hasMark (bs (110 :: 101 :: 119 :: Lib.itoa z)) 5=true:=by rw [m5,bs_data]; simp [List.isPrefixOf]
   have g6 : hasMark (bs (110 :: 101 :: 119 :: Lib.itoa z)) 6=false:=by rw [m6,bs_data]; simp [List.isPrefixOf]
   simp [markTo,g5,g6]
  simp only [hm]
  show ((5 : Int),atoiV (Lib.itoa z))=_
  rw [hat]
 ·have e0 : tokW 6 z=bs (102 :: Lib.itoa z):=rfl
  rw [e0]
  unfold tokOf
  rw [opOf_none rfl (by simp)]
  have hm : markTo (bs (102 :: Lib.itoa z)) 7=6:=by
   obtain ⟨m0,m1,m3,m2,m4,m5,m6⟩:=hasMark_eq (bs (102 :: Lib.itoa z))
   have g6 : hasMark (bs (102 :: Lib.itoa z)) 6=true:=by rw [m6,bs_data]; simp [List.isPrefixOf]
   simp [markTo,g6]
  simp only [hm]
  show ((6 : Int),atoiV (Lib.itoa z))=_
  rw [hat]

end Go.Proofs.YtfaggdkiffhdbaaGreatDoor
