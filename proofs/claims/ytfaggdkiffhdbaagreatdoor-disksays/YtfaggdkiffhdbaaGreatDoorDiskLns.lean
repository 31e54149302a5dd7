/- Lines of right records, one behind the other. -/
import Derived.Test.YtfaggdkiffhdbaaGreatDoorPart23
import Derived.Test.YtfaggdkiffhdbaaGreatDoorPart33
namespace Go.Proofs.YtfaggdkiffhdbaaGreatDoor
open Go.RowKit

def lnR (r : Rc) : List UInt8:=recT r ++ [10]
def lnsR : List Rc→List UInt8
 | [] => []
 | r :: l => lnR r ++ lnsR l
def GoodR (r : Rc) : Prop:=recErr r=0∧recI64 r

theorem lnsR_app : ∀ (a b : List Rc),lnsR (a ++ b)=lnsR a ++ lnsR b
 | [],b => rfl
 | r :: a,b => by rw [List.cons_append,lnsR,lnsR,lnsR_app a b,List.append_assoc]
theorem recT_noLF (r : Rc) : ¬ (10 : UInt8) ∈ recT r:=line_noLF _
theorem dLine_lnR {r : Rc} (h : GoodR r) (W : List UInt8) : dLine (lnR r ++ W)=(0,r,(lnR r).length):=by
 have e : lnR r ++ W=recT r ++ 10 :: W:=by unfold lnR; simp
 rw [e,dLine_app (recT_noLF r),recSays_text h.1 h.2 (recT_short h.1 h.2)]
 unfold lnR
 simp
theorem lnR_ne (r : Rc) (W : List UInt8) : ¬ lnR r ++ W=[]:=by unfold lnR; simp

theorem dRead_lns : ∀ (rs : List Rc) (c : Nat) (W : List UInt8),rs.length≤c→(∀ r ∈ rs,GoodR r)→dRead c (lnsR rs ++ W)=(rs ++ (dRead (c - rs.length) W).1,(lnsR rs).length + (dRead (c - rs.length) W).2.1,(dRead (c - rs.length) W).2.2)
 | [],c,W,_,_ => by simp [lnsR]
 | r :: rs,c,W,hc,hg => by
  obtain ⟨k,rfl⟩ : ∃ k,c=k + 1:=⟨c - 1,by rw [List.length_cons] at hc; omega⟩
  have hl:=dLine_lnR (hg r (by simp)) (lnsR rs ++ W)
  rw [lnsR,List.append_assoc,dRead_more k (lnR_ne r _) (by rw [hl]),hl]
  simp only [List.drop_left]
  rw [dRead_lns rs k W (by rw [List.length_cons] at hc; omega) (fun x hx => hg x (by simp [hx]))]
  simp [Nat.add_assoc]

/-- Of a beginning of lines the whole ones. -/
theorem dRead_part : ∀ (bs : List Rc) (c n : Nat),bs.length≤c→(∀ r ∈ bs,GoodR r)→∃ m,m≤bs.length∧(dRead c ((lnsR bs).take n)).1=bs.take m∧(dRead c ((lnsR bs).take n)).2.1=(lnsR (bs.take m)).length∧((lnsR bs).take n).take (lnsR (bs.take m)).length=lnsR (bs.take m)
 | [],c,n,_,_ => ⟨0,Nat.le_refl _,by simp [lnsR,dRead_nil],by simp [lnsR,dRead_nil],by simp [lnsR]⟩
 | r :: bs,c,n,hc,hg => by
  obtain ⟨k,rfl⟩ : ∃ k,c=k + 1:=⟨c - 1,by rw [List.length_cons] at hc; omega⟩
  have hlen : (lnR r).length=(recT r).length + 1:=by unfold lnR; simp
  by_cases hn : n < (lnR r).length
  ·refine ⟨0,Nat.zero_le _,?_⟩
   have ht : (lnsR (r :: bs)).take n=(recT r).take n:=by
    rw [lnsR]
    unfold lnR
    rw [List.append_assoc,List.take_append_of_le_length (by omega)]
   have hno : ¬ (10 : UInt8) ∈ (recT r).take n:=fun h => recT_noLF r (List.mem_of_mem_take h)
   rw [ht]
   have hd : dRead (k + 1) ((recT r).take n)=([],0,if (recT r).take n=[] then 0 else 8):=by
    by_cases he : (recT r).take n=[]
    ·rw [he,dRead_nil]; simp
    ·rw [dRead_bad _ he (by rw [dLine_none hno]; decide),dLine_none hno,if_neg he]
   rw [hd]
   exact ⟨rfl,rfl,rfl⟩
  ·obtain ⟨m,hm,h1,h2,h3⟩:=dRead_part bs k (n - (lnR r).length) (by rw [List.length_cons] at hc; omega) (fun x hx => hg x (by simp [hx]))
   have ht : (lnsR (r :: bs)).take n=lnR r ++ (lnsR bs).take (n - (lnR r).length):=by
    rw [lnsR,List.take_append,List.take_of_length_le (by omega)]
   have hl:=dLine_lnR (hg r (by simp)) ((lnsR bs).take (n - (lnR r).length))
   rw [ht]
   refine ⟨m + 1,by rw [List.length_cons]; omega,?_⟩
   rw [dRead_more k (lnR_ne r _) (by rw [hl]),hl]
   simp only [List.drop_left,List.take_succ_cons]
   rw [h1,h2,lnsR]
   refine ⟨rfl,by rw [List.length_append],?_⟩
   rw [List.length_append,List.take_append,List.take_of_length_le (by omega),show (lnR r).length + (lnsR (bs.take m)).length - (lnR r).length=(lnsR (bs.take m)).length by omega,h3]

end Go.Proofs.YtfaggdkiffhdbaaGreatDoor
