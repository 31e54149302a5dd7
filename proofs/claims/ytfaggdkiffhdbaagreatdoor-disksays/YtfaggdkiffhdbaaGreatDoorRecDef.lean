/- Records in plain Lean: what is wrong with one, its text, what a text says. -/
import Derived.Test.YtfaggdkiffhdbaaGreatDoorImgDef
namespace Go.Proofs.YtfaggdkiffhdbaaGreatDoor
open Go.RowKit

structure Rc where
 kind : Int
 co : Int
 ep : Int
 pl : Int
 says : List Int
 img : List Int

def rc0 : Rc:=⟨0,0,0,0,[],[]⟩

/-- A number from 0 to most. -/
def wthn (n most : Int) : Bool:=decide (0≤n) && decide (n≤most)

def recKind (r : Rc) : Bool:=decide (1≤r.kind) && decide (r.kind≤5)
def recRange (r : Rc) : Bool:=wthn r.co 2 && wthn r.ep 100 && wthn r.pl 2
def recMany (r : Rc) : Bool:=decide (r.says.length≤40) && decide (r.img.length≤1200)
def recForm (r : Rc) : Bool:=(decide (r.pl=0) || decide (r.kind=3)) && (decide (r.says.length=0) || decide (r.kind=2)) && ((decide (r.kind=1) || decide (r.kind=2) || decide (r.kind=4)) == decide (0 < r.img.length)) && decide (0 < r.ep)
def recErr (r : Rc) : Int:=if recKind r=false then 4 else if recRange r=false then 3 else if recMany r=false then 2 else if recForm r=false then 4 else 0

theorem recErr_zero {r : Rc} (h : recErr r=0) : recKind r=true∧recRange r=true∧recMany r=true∧recForm r=true:=by
 unfold recErr at h
 cases h1 : recKind r <;> cases h2 : recRange r <;> cases h3 : recMany r <;> cases h4 : recForm r <;> simp [h1,h2,h3,h4] at h <;> simp

/-- The numbers of a record's text. -/
def recZs (r : Rc) : List Int:=r.kind :: r.co :: r.ep :: r.pl :: (r.says.length : Int) :: (r.says ++ r.img)
def recT (r : Rc) : List UInt8:=lineL (recZs r)

/-- The record of a row of numbers. -/
def recOf (z : List Int) : Option Rc :=
 if z.length < 5 then none
 else if wthn (z.getD 4 0) (((z.drop 5).length : Nat) : Int)=false then none
 else some ⟨z.getD 0 0,z.getD 1 0,z.getD 2 0,z.getD 3 0,(z.drop 5).take (z.getD 4 0).toNat,(z.drop 5).drop (z.getD 4 0).toNat⟩

theorem recOf_zs (r : Rc) : recOf (recZs r)=some r:=by
 obtain ⟨k,c,e,p,s,i⟩:=r
 unfold recOf recZs
 rw [if_neg (by simp)]
 have e4 : (k :: c :: e :: p :: (s.length : Int) :: (s ++ i)).getD 4 0=(s.length : Int):=rfl
 have ed : (k :: c :: e :: p :: (s.length : Int) :: (s ++ i)).drop 5=s ++ i:=rfl
 rw [e4,ed,if_neg (by simp [wthn]; omega)]
 simp

theorem recZs_of {z : List Int} {r : Rc} (h : recOf z=some r) : recZs r=z:=by
 unfold recOf at h
 split at h
 ·cases h
 ·rename_i h5
  split at h
  ·cases h
  ·rename_i hw
   have hw2 : wthn (z.getD 4 0) (((z.drop 5).length : Nat) : Int)=true:=by simpa using hw
   cases h
   match z,h5,hw2 with
   | a :: b :: c :: d :: n :: l,_,hw2 =>
    have e4 : (a :: b :: c :: d :: n :: l).getD 4 0=n:=rfl
    have ed : (a :: b :: c :: d :: n :: l).drop 5=l:=rfl
    rw [e4,ed] at hw2
    unfold wthn at hw2
    simp only [Bool.and_eq_true,decide_eq_true_eq] at hw2
    unfold recZs
    simp only [e4,ed]
    show a :: b :: c :: d :: _ :: _=_
    rw [List.take_append_drop]
    have : ((l.take n.toNat).length : Int)=n:=by rw [List.length_take]; omega
    rw [this]
   | [],h5,_ => simp at h5
   | [_],h5,_ => simp at h5
   | [_,_],h5,_ => simp at h5
   | [_,_,_],h5,_ => simp at h5
   | [_,_,_,_],h5,_ => simp at h5

/-- What a text says: the error,and the record. -/
def recSays (s : List UInt8) : Int×Rc :=
 if 60000 < s.length then (2,rc0) else match recOf (numsOf s) with
  | none => (1,rc0)
  | some r => if recErr r=0 then (0,r) else (recErr r,rc0)

def recI64 (r : Rc) : Prop:=(∀ z ∈ r.says,i64 z)∧∀ z ∈ r.img,i64 z

theorem recZs_i64 {r : Rc} (h : recErr r=0) (hi : recI64 r) : ∀ z ∈ recZs r,i64 z:=by
 obtain ⟨h1,h2,h3,_⟩:=recErr_zero h
 unfold recKind at h1
 unfold recRange wthn at h2
 unfold recMany at h3
 simp only [Bool.and_eq_true,decide_eq_true_eq] at h1 h2 h3
 intro z hz
 unfold recZs at hz
 simp only [List.mem_cons,List.mem_append] at hz
 rcases hz with rfl | rfl | rfl | rfl | rfl | hz | hz
 ·unfold i64; omega
 ·unfold i64; omega
 ·unfold i64; omega
 ·unfold i64; omega
 ·unfold i64; omega
 ·exact hi.1 z hz
 ·exact hi.2 z hz

theorem nums_recT {r : Rc} (h : recErr r=0) (hi : recI64 r) : numsOf (recT r)=recZs r:=numsOf_line (by unfold recZs; simp) (recZs_i64 h hi)

theorem recT_inj {r q : Rc} (h : recErr r=0) (hi : recI64 r) (h' : recErr q=0) (hi' : recI64 q) : recT r=recT q ↔ r=q:=by
 constructor
 ·intro e
  have h1:=nums_recT h hi
  have h2:=nums_recT h' hi'
  rw [e,h2] at h1
  have:=recOf_zs r
  rw [← h1,recOf_zs] at this
  exact (Option.some.inj this).symm
 ·rintro rfl; rfl

theorem recSays_text {r : Rc} (h : recErr r=0) (hi : recI64 r) (hl : (recT r).length≤60000) : recSays (recT r)=(0,r):=by
 unfold recSays
 rw [if_neg (by omega),nums_recT h hi,recOf_zs]
 simp [h]

theorem recSays_back {s : List UInt8} (h : (recSays s).1=0) : recErr (recSays s).2=0∧recT (recSays s).2=s:=by
 unfold recSays at h ⊢
 split at h
 ·simp at h
 ·rename_i hl
  rw [if_neg hl]
  cases ho : recOf (numsOf s) with
  | none => rw [ho] at h; simp at h
  | some r =>
   rw [ho] at h
   simp only [] at h ⊢
   by_cases he : recErr r=0
   ·rw [if_pos he]
    refine ⟨he,?_⟩
    have hz:=recZs_of ho
    show lineL (recZs r)=s
    rw [hz]
    refine numsOf_back fun h0 => ?_
    rw [h0] at hz
    unfold recZs at hz
    cases hz
   ·rw [if_neg he] at h
    exact absurd h he

end Go.Proofs.YtfaggdkiffhdbaaGreatDoor
