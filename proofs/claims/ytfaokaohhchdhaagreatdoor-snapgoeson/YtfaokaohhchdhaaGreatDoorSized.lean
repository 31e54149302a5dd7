/- sized of the reckoning beside the program: how many statements there are, as far as they aren't too many or too deep. -/
import Derived.Test.YtfaokaohhchdhaaGreatDoorPart42
namespace Go.Proofs.YtfaokaohhchdhaaGreatDoor
open Go.RowKit
set_option maxHeartbeats 4000000 in
theorem sized (N:Nat):∀(d:Nat) (v:Value) (T:SL) (left:Nat) (w:World),N≤w.heap.size→StmtsAt N w d v T→(1≤left∨¬T.len=0)→left≤100 →
  Calls Tryz.prog 185 #[v,.int .i64 left] w fun e w'=>e=.returned (.tuple #[.int .i64 (sizeR d T left),.bool (fineB d T left)])∧Below w.heap.size w w':=by
 intro d
 induction d with
 | zero =>
  intro v T left w hN h hl hl2
  obtain⟨h0,a,cap,rfl⟩:=h
  have hli:¬(left:Int)<1:=by omega
  have HF:Hid (fineB 0 T left=true):=fineB_iff.2 ⟨trivial,by rw[size_none h0];omega⟩
  have HS:Hid (sizeR 0 T left=0):=sizeR_yes HF.out
  go_enter Tryz.func185,Tryz.ntmps185
  go_wp2_with fail
  go_loopw [6,17] (fun q i wr=>q=.int .i64 0∧i=.int .i64 0∧wr=w) (fun _ i _=>0)
  case atStart=>exact⟨rfl,rfl,rfl⟩
  case round =>
   obtain⟨rfl,rfl,rfl⟩:=hrel
   go_wp2_with fail
   go_ret2
   exact⟨ret_two HS.out.symm HF.out.symm,Below.refl _ _⟩
 | succ d ih =>
  intro v T left w hN h hl hl2
  obtain⟨a,cap,rfl,hn,h⟩:=h
  cases left with
  | zero =>
   have HF:Hid (fineB (d+1) T 0=false):=fine_zero (by omega)
   have HS:Hid (sizeR (d+1) T 0=0):=sizeR_no HF.out
   go_enter Tryz.func185,Tryz.ntmps185
   go_wp2_with fail
   go_ret2
   exact⟨ret_two HS.out.symm HF.out.symm,Below.refl _ _⟩
  | succ l =>
   have hli:¬(((l+1:Nat):Int))<1:=by omega
   have HL:Hid ((((l+1:Nat):Int)) - 1=l):=by show (((l+1:Nat):Int)) - 1=l;omega
   go_enter Tryz.func185,Tryz.ntmps185
   go_wp2_with fail
   go_loopw [6,17] (fun q i wr=>∃j:Nat,j≤T.len∧i=.int .i64 j∧q=.int .i64 ((sumTo j (wt d T):Nat):Int)∧Below w.heap.size w wr∧sumTo j (wt d T)≤30∧Hid (∀x,x<j→fits d (T.sub x false) l∧fits d (T.sub x true) l)) (fun _ i _=>T.len - (intOf i).toNat)
   case atStart=>exact⟨0,Nat.zero_le _,rfl,rfl,Below.refl _ _,by simp[sumTo],fun j hj=>absurd hj (Nat.not_lt_zero _)⟩
   case round =>
    obtain⟨j,hj,rfl,rfl,hb,h30,hall⟩:=hrel
    by_cases hlt:j<T.len
    ·rcases h with h|⟨b,o,rfl,hp,g⟩
     ·omega
     obtain⟨ve,vf,va,vb,q0,q1,q2,q3,q4,q5,t1,t2,s1,s2⟩:=g j hlt
     have hp':b<w.heap.size:=by omega
     rw[←hb.cell hp']at q0 q1 q2 q3 q4 q5
     have hbN:=hb.mono hN
     have s1:=s1.below hbN
     have s2:=s2.below hbN
     clear g
     obtain⟨ae,ce,rfl,_⟩:=t1.shape
     obtain⟨af,cf,rfl,_⟩:=t2.shape
     obtain⟨aa,ca,rfl,la⟩:=s1.shape
     obtain⟨ab,cb,rfl,lb⟩:=s2.shape
     have hz:=hb.size
     have HW:Hid (sumTo (j+1) (wt d T)=sumTo j (wt d T)+(1+size d (T.sub j false)+size d (T.sub j true))):=rfl
     have HNo:Hid (¬(fits d (T.sub j false) l∧fits d (T.sub j true) l∧sumTo (j+1) (wt d T)≤30)→fineB (d+1) T (l+1)=false):=fine_no hlt
     have hNr:N≤wr.heap.size:=by omega
     clear t1 t2
     generalize sumTo j (wt d T)=S at *
     go_wp2_with fail
     have hb0:Below w.heap.size w ((wr.alloc (.cells #[.int .i64 (T.nd j).kind,.int .i64 (T.nd j).num,.slice ae (T.nd j).ne ce,.slice af (T.nd j).nf cf,.slice aa (T.sub j false).len ca,.slice ab (T.sub j true).len cb] 196)).alloc (.cells #[.slice aa (T.sub j false).len ca,.slice ab (T.sub j true).len cb] 109)):=below_step hb (below_step (below_alloc _ _) (below_alloc _ _))
     have hbr:Below wr.heap.size wr ((wr.alloc (.cells #[.int .i64 (T.nd j).kind,.int .i64 (T.nd j).num,.slice ae (T.nd j).ne ce,.slice af (T.nd j).nf cf,.slice aa (T.sub j false).len ca,.slice ab (T.sub j true).len cb] 196)).alloc (.cells #[.slice aa (T.sub j false).len ca,.slice ab (T.sub j true).len cb] 109)):=below_step (below_alloc _ _) (below_alloc _ _)
     have c0:((wr.alloc (.cells #[.int .i64 (T.nd j).kind,.int .i64 (T.nd j).num,.slice ae (T.nd j).ne ce,.slice af (T.nd j).nf cf,.slice aa (T.sub j false).len ca,.slice ab (T.sub j true).len cb] 196)).alloc (.cells #[.slice aa (T.sub j false).len ca,.slice ab (T.sub j true).len cb] 109)).cell? ⟨wr.heap.size+1,0,none⟩=some (.slice aa (T.sub j false).len ca):=by simp
     have c1:((wr.alloc (.cells #[.int .i64 (T.nd j).kind,.int .i64 (T.nd j).num,.slice ae (T.nd j).ne ce,.slice af (T.nd j).nf cf,.slice aa (T.sub j false).len ca,.slice ab (T.sub j true).len cb] 196)).alloc (.cells #[.slice aa (T.sub j false).len ca,.slice ab (T.sub j true).len cb] 109)).cell? ⟨wr.heap.size+1,1,none⟩=some (.slice ab (T.sub j true).len cb):=by simp
     have hsz:wr.heap.size+1<((wr.alloc (.cells #[.int .i64 (T.nd j).kind,.int .i64 (T.nd j).num,.slice ae (T.nd j).ne ce,.slice af (T.nd j).nf cf,.slice aa (T.sub j false).len ca,.slice ab (T.sub j true).len cb] 196)).alloc (.cells #[.slice aa (T.sub j false).len ca,.slice ab (T.sub j true).len cb] 109)).heap.size:=by simp
     generalize (wr.alloc (.cells #[.int .i64 (T.nd j).kind,.int .i64 (T.nd j).num,.slice ae (T.nd j).ne ce,.slice af (T.nd j).nf cf,.slice aa (T.sub j false).len ca,.slice ab (T.sub j true).len cb] 196)).alloc (.cells #[.slice aa (T.sub j false).len ca,.slice ab (T.sub j true).len cb] 109)=w0 at *
     have s1:=s1.below (hbr.mono hNr)
     have s2:=s2.below (hbr.mono hNr)
     have hN0:N≤w0.heap.size:=Nat.le_trans hNr hbr.size
     clear q0 q1 q2 q3 q4 q5 hb hbr
     generalize wr.heap.size+1=B at *
     go_loopw [6,29] (fun q i wi=>∃(x:Nat) (M:Nat),x≤2∧i=.int .i64 x∧q=.int .i64 (M:Int)∧Below w0.heap.size w0 wi∧(2≤x∨M≤31)∧M≤100∧Hid (M=(if x=0 then S+1 else if x=1 then S+1+size d (T.sub j false) else S+1+size d (T.sub j false)+size d (T.sub j true)))∧Hid (1≤x→fits d (T.sub j false) l)∧Hid (2≤x→fits d (T.sub j true) l)) (fun _ i _=>2 - (intOf i).toNat)
     case atStart=>exact⟨0,S+1,by omega,rfl,by simp,Below.refl _ _,by omega,by omega,rfl,fun h=>absurd h (by decide),fun h=>absurd h (by decide)⟩
     case round =>
      obtain⟨x,M,hx,rfl,rfl,hbi,hM,hM2,HM,z1,z2⟩:=hrel
      have hbT:Below w.heap.size w wr:=below_step hb0 hbi
      rw[←hbi.cell (p:=⟨B,0,none⟩) hsz]at c0
      rw[←hbi.cell (p:=⟨B,1,none⟩) hsz]at c1
      have hNi:N≤wr.heap.size:=Nat.le_trans hN0 hbi.size
      rcases (show x=0∨x=1∨x=2 by omega) with rfl|rfl|rfl
      ·by_cases h0:(T.sub j false).len=0
       ·have h0i:¬(0:Int)<((T.sub j false).len:Int):=by omega
        have HZ:Hid (size d (T.sub j false)=0):=size_none h0
        have HG:Hid (fits d (T.sub j false) l):=fits_zero h0 l
        clear h0
        go_wp2_with fail
        go_roundw
        case rel=>exact⟨1,M,by omega,by go_num,rfl,hbi,by omega,hM2,by have:=HM.out;have:=HZ.out;simp[Hid]at *;omega,fun _=>HG.out,fun h=>absurd h (by decide)⟩
        case measure=>simp[intOf]
       ·have h0i:(0:Int)<((T.sub j false).len:Int):=by omega
        have HC:Hid (Calls Tryz.prog 185 #[.slice aa (T.sub j false).len ca,.int .i64 l] wr fun e w'=>e=.returned (.tuple #[.int .i64 (sizeR d (T.sub j false) l),.bool (fineB d (T.sub j false) l)])∧Below wr.heap.size wr w'):=ih _ _ l wr hNi (s1.below (hbi.mono hN0)) (Or.inr h0) (by omega)
        have HL1:Hid (((l:Int)+1) - 1=l):=by show ((l:Int)+1) - 1=l;omega
        clear h0
        by_cases hf:fineB d (T.sub j false) l=true
        ·obtain⟨hf1,hf2⟩:=fineB_iff.1 hf
         rw[sizeR_yes hf,hf]at HC
         have HG:Hid (fits d (T.sub j false) l):=hf1
         have HZ:Hid (size d (T.sub j false)=size d (T.sub j false)):=rfl
         clear hf hf1
         by_cases h31:M+size d (T.sub j false)≤30
         ·have h31i:¬(30:Int)<(M:Int)+(size d (T.sub j false):Int):=by omega
          go_wp2_with (go_at_call 185;refine HC.out.mono ?_;rintro e w2 ⟨rfl,hb2⟩)
          go_roundw
          case rel=>exact⟨1,M+size d (T.sub j false),by omega,by go_num,by go_num,below_step hbi hb2,by omega,by omega,by have:=HM.out;simp[Hid]at *;omega,fun _=>HG.out,fun h=>absurd h (by decide)⟩
          case measure=>simp[intOf]
         ·have h31i:(30:Int)<(M:Int)+(size d (T.sub j false):Int):=by omega
          have HF:Hid (fineB (d+1) T (l+1)=false):=HNo.out (fun hh=>by
           have e1:=hh.2.2
           have e2:=HW.out
           have e3:=HM.out
           simp at e3
           omega)
          have HS:Hid (sizeR (d+1) T (l+1)=0):=sizeR_no HF.out
          go_wp2_with (go_at_call 185;refine HC.out.mono ?_;rintro e w2 ⟨rfl,hb2⟩)
          go_ret2
          exact⟨ret_two HS.out.symm HF.out.symm,below_step hbT hb2⟩
        ·have hf':fineB d (T.sub j false) l=false:=by simpa using hf
         rw[sizeR_no hf',hf']at HC
         have HF:Hid (fineB (d+1) T (l+1)=false):=HNo.out (fun hh=>by
          have e2:=HW.out
          exact hf (fineB_iff.2 ⟨hh.1,by have:=hh.2.2;omega⟩))
         have HS:Hid (sizeR (d+1) T (l+1)=0):=sizeR_no HF.out
         clear hf hf'
         go_wp2_with (go_at_call 185;refine HC.out.mono ?_;rintro e w2 ⟨rfl,hb2⟩)
         go_ret2
         exact⟨ret_two HS.out.symm HF.out.symm,below_step hbT hb2⟩
      ·by_cases h0:(T.sub j true).len=0
       ·have h0i:¬(0:Int)<((T.sub j true).len:Int):=by omega
        have HZ:Hid (size d (T.sub j true)=0):=size_none h0
        have HG:Hid (fits d (T.sub j true) l):=fits_zero h0 l
        clear h0
        go_wp2_with fail
        go_roundw
        case rel=>exact⟨2,M,by omega,by go_num,rfl,hbi,by omega,hM2,by have:=HM.out;have:=HZ.out;simp[Hid]at *;omega,fun _=>z1.out (by decide),fun _=>HG.out⟩
        case measure=>simp[intOf]
       ·have h0i:(0:Int)<((T.sub j true).len:Int):=by omega
        have HC:Hid (Calls Tryz.prog 185 #[.slice ab (T.sub j true).len cb,.int .i64 l] wr fun e w'=>e=.returned (.tuple #[.int .i64 (sizeR d (T.sub j true) l),.bool (fineB d (T.sub j true) l)])∧Below wr.heap.size wr w'):=ih _ _ l wr hNi (s2.below (hbi.mono hN0)) (Or.inr h0) (by omega)
        have HL1:Hid (((l:Int)+1) - 1=l):=by show ((l:Int)+1) - 1=l;omega
        clear h0
        by_cases hf:fineB d (T.sub j true) l=true
        ·obtain⟨hf1,hf2⟩:=fineB_iff.1 hf
         rw[sizeR_yes hf,hf]at HC
         have HG:Hid (fits d (T.sub j true) l):=hf1
         have HZ:Hid (size d (T.sub j true)=size d (T.sub j true)):=rfl
         clear hf hf1
         by_cases h31:M+size d (T.sub j true)≤30
         ·have h31i:¬(30:Int)<(M:Int)+(size d (T.sub j true):Int):=by omega
          go_wp2_with (go_at_call 185;refine HC.out.mono ?_;rintro e w2 ⟨rfl,hb2⟩)
          go_roundw
          case rel=>exact⟨2,M+size d (T.sub j true),by omega,by go_num,by go_num,below_step hbi hb2,by omega,by omega,by have:=HM.out;simp[Hid]at *;omega,fun _=>z1.out (by decide),fun _=>HG.out⟩
          case measure=>simp[intOf]
         ·have h31i:(30:Int)<(M:Int)+(size d (T.sub j true):Int):=by omega
          have HF:Hid (fineB (d+1) T (l+1)=false):=HNo.out (fun hh=>by
           have e1:=hh.2.2
           have e2:=HW.out
           have e3:=HM.out
           simp at e3
           omega)
          have HS:Hid (sizeR (d+1) T (l+1)=0):=sizeR_no HF.out
          go_wp2_with (go_at_call 185;refine HC.out.mono ?_;rintro e w2 ⟨rfl,hb2⟩)
          go_ret2
          exact⟨ret_two HS.out.symm HF.out.symm,below_step hbT hb2⟩
        ·have hf':fineB d (T.sub j true) l=false:=by simpa using hf
         rw[sizeR_no hf',hf']at HC
         have HF:Hid (fineB (d+1) T (l+1)=false):=HNo.out (fun hh=>by
          have e2:=HW.out
          exact hf (fineB_iff.2 ⟨hh.2.1,by have:=hh.2.2;omega⟩))
         have HS:Hid (sizeR (d+1) T (l+1)=0):=sizeR_no HF.out
         clear hf hf'
         go_wp2_with (go_at_call 185;refine HC.out.mono ?_;rintro e w2 ⟨rfl,hb2⟩)
         go_ret2
         exact⟨ret_two HS.out.symm HF.out.symm,below_step hbT hb2⟩
      ·have HMe:Hid (M=sumTo (j+1) (wt d T)):=by
        have:=HM.out
        have:=HW.out
        simp[Hid]at *
        omega
       by_cases h31:M≤30
       ·have h31i:¬(30:Int)<(M:Int):=by omega
        go_wp2_with fail
        go_roundw
        case rel=>exact⟨j+1,by omega,by go_num,by rw[←HMe.out],hbT,by rw[←HMe.out];exact h31,upTo hall.out ⟨z1.out (by decide),z2.out (by decide)⟩⟩
        case measure=>simp[intOf];omega
       ·have h31i:(30:Int)<(M:Int):=by omega
        have HF:Hid (fineB (d+1) T (l+1)=false):=HNo.out (fun hh=>by
         have e1:=hh.2.2
         rw[←HMe.out]at e1
         omega)
        have HS:Hid (sizeR (d+1) T (l+1)=0):=sizeR_no HF.out
        go_wp2_with fail
        go_ret2
        exact⟨ret_two HS.out.symm HF.out.symm,hbT⟩
    ·obtain rfl:j=T.len:=by omega
     have HF:Hid (fineB (d+1) T (l+1)=true):=fine_yes hall.out h30
     have HS:Hid (sizeR (d+1) T (l+1)=((sumTo T.len (wt d T):Nat):Int)):=sizeR_yes HF.out
     go_wp2_with fail
     go_ret2
     exact⟨ret_two HS.out.symm HF.out.symm,hb⟩
end Go.Proofs.YtfaokaohhchdhaaGreatDoor
