/- Records put one by one, synced, crashed, recovered: plain. -/
import Derived.Test.YtfaggdkiffhdbaaDoorDiskFiled
namespace Go.Proofs.YtfaggdkiffhdbaaDoor
open Go.RowKit Go.Maps

def kStep (s : Dk×List Rc) (r : Rc) : Dk×List Rc:=if (dPutR s.1 r).1=0 then ((dPutR s.1 r).2,s.2 ++ [r]) else s
def kRun (d : Dk) (l : List Rc) : Dk×List Rc:=l.foldl kStep (d,[])

theorem dPutR_ok {d : Dk} {r : Rc} (h : (dPutR d r).1=0) : dErr d=0∧recErr r=0∧dPutR d r=(0,⟨d.safe,d.wait ++ lnR r⟩)∧d.safe.length + (d.wait ++ lnR r).length≤60000:=by
 unfold dPutR at h ⊢
 by_cases h0 : dErr d=0
 ·rw [if_pos h0] at h ⊢
  by_cases h1 : recErr r=0
  ·rw [if_pos h1] at h ⊢
   by_cases h2 : 60000 < d.safe.length + d.wait.length + ((recT r).length + 1)
   ·rw [if_pos h2] at h; simp at h
   ·rw [if_neg h2]
    refine ⟨h0,h1,rfl,?_⟩
    rw [List.length_append,← recT_one]
    omega
  ·rw [if_neg h1] at h
   exact absurd h h1
 ·rw [if_neg h0] at h
  exact absurd h h0

/-- What is so put: lines of right records behind what waits. -/
theorem kFold : ∀ (l : List Rc) (S T out : List Rc),(∀ r ∈ l,recI64 r)→(lnsR S).length + (lnsR (T ++ out)).length≤60000→∃ B,l.foldl kStep (⟨lnsR S,lnsR (T ++ out)⟩,out)=(⟨lnsR S,lnsR (T ++ B)⟩,B)∧(∃ B',B=out ++ B'∧∀ r ∈ B',GoodR r)∧B.length≤out.length + l.length∧(lnsR S).length + (lnsR (T ++ B)).length≤60000
 | [],S,T,out,_,hs => ⟨out,rfl,⟨[],by simp,by simp⟩,by simp,hs⟩
 | r :: l,S,T,out,hi,hs => by
  rw [List.foldl_cons]
  by_cases h : (dPutR ⟨lnsR S,lnsR (T ++ out)⟩ r).1=0
  ·obtain ⟨_,h1,h2,h3⟩:=dPutR_ok h
   have e : kStep (⟨lnsR S,lnsR (T ++ out)⟩,out) r=(⟨lnsR S,lnsR (T ++ (out ++ [r]))⟩,out ++ [r]):=by
    unfold kStep
    rw [if_pos h,h2]
    simp [lnsR_app,lnsR]
   have e2 : lnsR (T ++ (out ++ [r]))=lnsR (T ++ out) ++ lnR r:=by
    rw [← List.append_assoc,lnsR_app (T ++ out) [r]]; simp [lnsR]
   obtain ⟨B,hB,⟨B',hB',hg⟩,hl,hz⟩:=kFold l S T (out ++ [r]) (fun x hx => hi x (by simp [hx])) (by rw [e2]; exact h3)
   rw [e]
   refine ⟨B,hB,⟨r :: B',by rw [hB']; simp,fun x hx => ?_⟩,by rw [List.length_append] at hl; simp at hl ⊢; omega,hz⟩
   rcases List.mem_cons.1 hx with rfl | hx
   ·exact ⟨h1,hi x (by simp)⟩
   ·exact hg x hx
  ·have e : kStep (⟨lnsR S,lnsR (T ++ out)⟩,out) r=(⟨lnsR S,lnsR (T ++ out)⟩,out):=by
    unfold kStep
    rw [if_neg h]
   obtain ⟨B,hB,hg,hl,hz⟩:=kFold l S T out (fun x hx => hi x (by simp [hx])) hs
   rw [e]
   exact ⟨B,hB,hg,by rw [List.length_cons]; omega,hz⟩
theorem kRun_ok (l S : List Rc) (hi : ∀ r ∈ l,recI64 r) (hs : (lnsR S).length≤60000) : ∃ B,kRun ⟨lnsR S,[]⟩ l=(⟨lnsR S,lnsR B⟩,B)∧(∀ r ∈ B,GoodR r)∧B.length≤l.length∧(lnsR S).length + (lnsR B).length≤60000:=by
 obtain ⟨B,h1,⟨B',h2,h3⟩,h4,h5⟩:=kFold l S [] [] hi (by simpa [lnsR] using hs)
 refine ⟨B,h1,fun r hr => h3 r (by rw [h2] at hr; simpa using hr),by simpa using h4,by simpa using h5⟩

theorem dRead_good (S : List Rc) (hg : ∀ r ∈ S,GoodR r) (hl : S.length≤120) : dRead 120 (lnsR S)=(S,(lnsR S).length,0):=by
 have:=dRead_lns S 120 [] hl hg
 rw [List.append_nil,dRead_nil] at this
 rw [this]
 simp
theorem dErr_good (S : List Rc) (t : List UInt8) (hg : ∀ r ∈ S,GoodR r) (hl : S.length≤120) (hs : (lnsR S).length + t.length≤60000) : dErr ⟨lnsR S,t⟩=0:=by
 unfold dErr
 rw [if_neg (by simp only []; omega),dRead_good S hg hl]
theorem sync_good (A : List Rc) (hg : ∀ r ∈ A,GoodR r) (hl : A.length≤120) (hs : (lnsR A).length≤60000) : dSyncR ⟨[],lnsR A⟩=(0,⟨lnsR A,[]⟩):=by
 unfold dSyncR
 have h1 : dErr ⟨[],lnsR A⟩=0:=by
  have:=dErr_good [] (lnsR A) (by simp) (by simp) (by simpa [lnsR] using hs)
  exact this
 have h2 : dErr (syncD ⟨[],lnsR A⟩)=0:=by
  have:=dErr_good A [] hg hl (by simpa using hs)
  unfold syncD
  rw [List.nil_append]
  exact this
 rw [if_pos h1,if_pos h2]
 rfl
theorem crash_good (A B : List Rc) (k : Nat) (hg : ∀ r ∈ A,GoodR r) (hl : A.length≤120) (hs : (lnsR A).length + (lnsR B).length≤60000) (hk : k≤(lnsR B).length) : dCrashR ⟨lnsR A,lnsR B⟩ (k : Int)=(0,⟨lnsR A,(lnsR B).take k⟩):=by
 unfold dCrashR
 rw [if_pos (dErr_good A _ hg hl hs),if_neg (by simp only []; omega)]
 rfl
/-- WHATEVER IS KEPT: all that was synced,and of the rest a beginning; recovered again it is the same. -/
theorem recover_good (A B : List Rc) (k : Nat) (ha : ∀ r ∈ A,GoodR r) (hb : ∀ r ∈ B,GoodR r) (hl : A.length + B.length≤120) (hs : (lnsR A).length + (lnsR B).length≤60000) :
  ∃ m,m≤B.length∧dRecR ⟨lnsR A,(lnsR B).take k⟩=(0,⟨lnsR (A ++ B.take m),[]⟩,A ++ B.take m)∧dRecR ⟨lnsR (A ++ B.take m),[]⟩=(0,⟨lnsR (A ++ B.take m),[]⟩,A ++ B.take m)∧(lnsR (A ++ B.take m)).length≤60000:=by
 obtain ⟨m,hm,h1,h2,h3⟩:=dRead_part B (120 - A.length) k (by omega) hb
 have htl : ((lnsR B).take k).length≤(lnsR B).length:=by rw [List.length_take]; omega
 have hml : (lnsR (B.take m)).length≤(lnsR B).length:=by
  have:=congrArg List.length h3
  rw [List.length_take] at this
  omega
 have hgm : ∀ r ∈ A ++ B.take m,GoodR r:=fun r hr => by
  rcases List.mem_append.1 hr with hr | hr
  ·exact ha r hr
  ·exact hb r (List.mem_of_mem_take hr)
 have hlm : (A ++ B.take m).length≤120:=by rw [List.length_append,List.length_take]; omega
 have hsm : (lnsR (A ++ B.take m)).length≤60000:=by rw [lnsR_app,List.length_append]; omega
 refine ⟨m,hm,?_,?_,hsm⟩
 ·unfold dRecR
  rw [if_pos (dErr_good A _ ha (by omega) (by omega))]
  have e : allD ⟨lnsR A,(lnsR B).take k⟩=lnsR A ++ (lnsR B).take k:=rfl
  rw [e,dRead_lns A 120 _ (by omega) ha,h1,h2]
  have : (lnsR A ++ (lnsR B).take k).take ((lnsR A).length + (lnsR (B.take m)).length)=lnsR (A ++ B.take m):=by
   rw [List.take_append,List.take_of_length_le (by omega),Nat.add_sub_cancel_left,h3,lnsR_app]
  simp only [this]
 ·unfold dRecR
  rw [if_pos (dErr_good _ [] hgm hlm (by simpa using hsm))]
  have e : allD ⟨lnsR (A ++ B.take m),[]⟩=lnsR (A ++ B.take m):=by simp [allD]
  rw [e,dRead_good _ hgm hlm]
  simp

end Go.Proofs.YtfaggdkiffhdbaaDoor
