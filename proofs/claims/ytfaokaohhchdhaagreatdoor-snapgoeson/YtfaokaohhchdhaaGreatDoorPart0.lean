/- The plain reckoning behind the cells: which error a value has, which row of values, which cells; what is met from a row of values. No Go in it. -/
import Derived.Test.YtfaokaohhchdhaaGreatDoorChecked
import Derived.WalkKit
import Derived.ProofKit
import Derived.OpenShut
import Derived.WalkSmall
import Derived.Deep.QuietTactic
import Derived.BigQuiet
namespace Go.Proofs.YtfaokaohhchdhaaGreatDoor
section
def chk (k n c:Int):Int :=
 if k=0 then (if n=0 then 0 else 4)
 else if k=1 then (if n < -1000000000∨1000000000<n then 3 else 0)
 else if k=2 then (if n<0∨c≤n then 5 else 0)
 else 4
def firstErr:Nat→(Nat→Int)→Int
 | 0,_=>0
 | n+1,f=>if firstErr n f=0 then f n else firstErr n f
theorem firstErr_zero {f:Nat→Int}:∀ {n:Nat},(∀j,j<n→f j=0)→firstErr n f=0
 | 0,_=>rfl
 | n+1,h=>by
  have:=firstErr_zero (n:=n) fun j hj=>h j (by omega)
  simp only[firstErr,this,if_true]
  exact h n (by omega)
theorem firstErr_at {f:Nat→Int} {i:Nat} (h0:∀j,j<i→f j=0) (hi:¬f i=0):∀ {n:Nat},i<n→firstErr n f=f i
 | 0,h=>absurd h (Nat.not_lt_zero _)
 | n+1,h=>by
  by_cases e:i=n
  ·subst e;simp only[firstErr,firstErr_zero h0,if_true]
  ·have:=firstErr_at h0 hi (n:=n) (by omega)
   simp only[firstErr,this,hi,if_false]
theorem firstErr_is_zero {f:Nat→Int}:∀ {n:Nat},firstErr n f=0→∀j,j<n→f j=0
 | 0,_,j,hj=>absurd hj (Nat.not_lt_zero _)
 | n+1,h,j,hj=>by
  simp only[firstErr]at h
  by_cases e:firstErr n f=0
  ·rw[if_pos e]at h
   by_cases ej:j=n
   ·subst ej;exact h
   ·exact firstErr_is_zero e j (by omega)
  ·rw[if_neg e]at h;exact absurd h e
def rowErr (n:Nat) (k z:Nat→Int) (c:Int):Int:=firstErr n fun i=>chk (k i) (z i) c
def cellErr (m:Nat) (k z:Nat→Int) (c:Int):Int:=if m<1∨4<m then 2 else rowErr m k z c
def allErr (n:Nat) (m:Nat→Nat) (K Z:Nat→Nat→Int):Int :=
 if 24<n then 2 else firstErr n fun i=>cellErr (m i) (K i) (Z i) n
def reachErr (n:Nat) (m:Nat→Nat) (K Z:Nat→Nat→Int) (f:Nat) (kf zf:Nat→Int):Int :=
 if allErr n m K Z=0 then (if 400<f then 2 else rowErr f kf zf n) else allErr n m K Z
end
section
def meet1 (R:List Int) (k z:Int):List Int:=if k=2∧¬z ∈ R then R++[z] else R
def meetTo:Nat→(Nat→Int)→(Nat→Int)→List Int→List Int
 | 0,_,_,R=>R
 | i+1,k,z,R=>meet1 (meetTo i k z R) (k i) (z i)
theorem meet1_no {R:List Int} {k z:Int} (h:¬k=2):meet1 R k z=R:=if_neg fun e=>h e.1
theorem meet1_old {R:List Int} {k z:Int} (h:z ∈ R):meet1 R k z=R:=if_neg fun e=>e.2 h
theorem meet1_new {R:List Int} {k z:Int} (hk:k=2) (h:¬z ∈ R):meet1 R k z=R++[z]:=if_pos ⟨hk,h⟩
theorem meet1_len (R:List Int) (k z:Int):(meet1 R k z).length≤R.length+1:=by
 unfold meet1;split
 ·simp
 ·omega
theorem meetTo_len:∀(i:Nat) (k z:Nat→Int) (R:List Int),(meetTo i k z R).length≤R.length+i
 | 0,_,_,R=>by simp[meetTo]
 | i+1,k,z,R=>by
  have:=meetTo_len i k z R
  have h1:=meet1_len (meetTo i k z R) (k i) (z i)
  simp only[meetTo];omega
end
section
open Go.ChangeShapes Go.WideShapes Go.ChangeAt Go.RowKit
def IntsAt (w:World) (v:Value) (n:Nat) (z:Nat→Int):Prop :=
 ∃a cap,v=.slice a n cap∧(n=0∨∃b o,a=some ⟨b,o,none⟩∧b<w.heap.size∧∀i,i<n→w.cell? ⟨b,o+i,none⟩=some (.int .i64 (z i)))
def ValsAt (w:World) (v:Value) (n:Nat) (k z:Nat→Int):Prop :=
 ∃a cap,v=.slice a n cap∧n≤9223372036854775807∧(n=0∨∃b o,a=some ⟨b,o,none⟩∧b<w.heap.size∧∀i,i<n→w.cell? ⟨b,o+i*2,none⟩=some (.int .i64 (k i))∧w.cell? ⟨b,o+i*2+1,none⟩=some (.int .i64 (z i)))
def CellsAt (w:World) (v:Value) (n:Nat) (m:Nat→Nat) (K Z:Nat→Nat→Int):Prop :=
 ∃a cap,v=.slice a n cap∧n≤9223372036854775807∧(n=0∨∃b o,a=some ⟨b,o,none⟩∧b<w.heap.size∧∀i,i<n→∃u,w.cell? ⟨b,o+i,none⟩=some u∧ValsAt w u (m i) (K i) (Z i))
theorem cell_lt {w:World} {a:Addr} {v:Value} (h:w.cell? a=some v):a.block<w.heap.size:=by
 unfold World.cell? at h
 by_cases hb:a.block<w.heap.size
 ·exact hb
 ·simp[Array.getElem?_eq_none (Nat.le_of_not_lt hb)]at h
theorem IntsAt.below {w w':World} {v:Value} {n:Nat} {z:Nat→Int} (h:IntsAt w v n z) (hb:Below w.heap.size w w'):IntsAt w' v n z:=by
 obtain⟨a,cap,rfl,h|⟨b,o,rfl,hlt,hc⟩⟩:=h
 ·exact⟨a,cap,rfl,Or.inl h⟩
 ·exact⟨_,cap,rfl,Or.inr ⟨b,o,rfl,Nat.lt_of_lt_of_le hlt hb.size,fun i hi=>by rw[hb.cell hlt];exact hc i hi⟩⟩
theorem ValsAt.below {w w':World} {v:Value} {n:Nat} {k z:Nat→Int} (h:ValsAt w v n k z) (hb:Below w.heap.size w w'):ValsAt w' v n k z:=by
 obtain⟨a,cap,rfl,hn,h|⟨b,o,rfl,hlt,hc⟩⟩:=h
 ·exact⟨a,cap,rfl,hn,Or.inl h⟩
 ·exact⟨_,cap,rfl,hn,Or.inr ⟨b,o,rfl,Nat.lt_of_lt_of_le hlt hb.size,fun i hi=>by rw[hb.cell hlt,hb.cell hlt];exact hc i hi⟩⟩
theorem CellsAt.below {w w':World} {v:Value} {n:Nat} {m:Nat→Nat} {K Z:Nat→Nat→Int} (h:CellsAt w v n m K Z) (hb:Below w.heap.size w w'):CellsAt w' v n m K Z:=by
 obtain⟨a,cap,rfl,hn,h|⟨b,o,rfl,hlt,hc⟩⟩:=h
 ·exact⟨a,cap,rfl,hn,Or.inl h⟩
 ·refine⟨_,cap,rfl,hn,Or.inr ⟨b,o,rfl,Nat.lt_of_lt_of_le hlt hb.size,fun i hi=>?_⟩⟩
  obtain⟨u,hu,hv⟩:=hc i hi
  exact⟨u,by rw[hb.cell hlt];exact hu,hv.below hb⟩
theorem below_alloc (w:World) (o:Obj):Below w.heap.size w (w.alloc o):=(Below.refl _ _).alloc (Nat.le_refl _) o
theorem below_drewN' (w:World) (n:Nat):Below w.heap.size w (w.drewN n):=below_drewN (Below.refl _ _) n
theorem ValsAt.drewN {w:World} {v:Value} {n:Nat} {k z:Nat→Int} (h:ValsAt w v n k z) (m:Nat):ValsAt (w.drewN m) v n k z:=h.below (below_drewN' w m)
theorem below_step {a b c:World} (h:Below a.heap.size a b) (k:Below b.heap.size b c):Below a.heap.size a c:=h.trans (k.mono h.size)
end
section
open Go.RowKit
def eqB (n1 n2:Nat) (z1 z2:Nat→Int):Bool:=decide (n1=n2∧∀i,i<n1→z1 i=z2 i)
theorem eqB_iff {n1 n2:Nat} {z1 z2:Nat→Int}:eqB n1 n2 z1 z2=true ↔ n1=n2∧∀i,i<n1→z1 i=z2 i:=by
 unfold eqB;exact decide_eq_true_iff
theorem eqB_yes {n:Nat} {z1 z2:Nat→Int} (h:∀i,i<n→z1 i=z2 i):eqB n n z1 z2=true:=eqB_iff.2 ⟨rfl,h⟩
theorem eqB_no {n1 n2:Nat} {z1 z2:Nat→Int} {k:Nat} (hk:k<n1) (h:¬z1 k=z2 k):eqB n1 n2 z1 z2=false:=by
 rw[Bool.eq_false_iff];intro e;exact h ((eqB_iff.1 e).2 k hk)
theorem eqB_len {n1 n2:Nat} {z1 z2:Nat→Int} (h:¬n1=n2):eqB n1 n2 z1 z2=false:=by
 rw[Bool.eq_false_iff];intro e;exact h (eqB_iff.1 e).1
theorem ret_bool {a b:Bool} (h:a=b):Ending.returned (.bool a)=.returned (.bool b):=by rw[h]
theorem upTo {p:Nat→Prop} {k:Nat} (h:∀j,j<k→p j) (hk:p k):∀j,j<k+1→p j:=fun j hj =>
 if e:j<k then h j e else by
  have:j=k:=by omega
  subst this;exact hk
end
section
def tokErr (k z:Int) (nf:Nat) (locals:Int):Int :=
 if k=1 then (if z < -1000000000∨1000000000<z then 3 else 0)
 else if k=2 then (if z<0∨locals≤z then 3 else 0)
 else if k=3 then (if z<1∨5<z then 3 else 0)
 else if k=4 then (if z<0∨3<z then 3 else 0)
 else if k=5 then (if z<1∨4<z then 3 else 0)
 else if k=6 then (if z<0∨(nf:Int)≤z then 5 else 0)
 else 4
def asksOf (k z:Int) (par:Nat→Int):Int :=
 if k=3 then 2 else if k=4 then 1 else if k=6 then par z.toNat else 0
def parErr (p:Int):Int:=if p<0∨3<p then 3 else 0
def asked (k z:Nat→Int) (par:Nat→Int):Nat→Int
 | 0=>1
 | j+1=>asked k z par j+(asksOf (k j) (z j) par - 1)
def stepErr (k z:Nat→Int) (nf:Nat) (par:Nat→Int) (locals:Int) (j:Nat):Int :=
 if tokErr (k j) (z j) nf locals=0 then (if asked k z par j=0 then 4 else 0) else tokErr (k j) (z j) nf locals
def exprErr (n:Nat) (k z:Nat→Int) (nf:Nat) (par:Nat→Int) (locals:Int):Int :=
 if 24<n then 2
 else if firstErr nf (fun i=>parErr (par i))=0 then
  (if firstErr n (stepErr k z nf par locals)=0 then (if 0<asked k z par n then 4 else 0) else firstErr n (stepErr k z nf par locals))
 else 3
theorem parErr_zero {p:Int} (h:parErr p=0):0≤p∧p≤3:=by unfold parErr at h;split at h<;>omega
theorem tokErr_call {k z:Int} {nf:Nat} {locals:Int} (h:tokErr k z nf locals=0) (hk:k=6):0≤z∧z.toNat<nf:=by
 subst hk
 unfold tokErr at h
 simp at h
 omega
theorem asks_range {k z:Int} {nf:Nat} {locals:Int} {par:Nat→Int} (h:tokErr k z nf locals=0) (hp:∀i,i<nf→parErr (par i)=0):0≤asksOf k z par∧asksOf k z par≤3:=by
 unfold asksOf
 split
 ·omega
 split
 ·omega
 split
 ·next h3=>exact parErr_zero (hp _ (tokErr_call h h3).2)
 ·omega
theorem stepErr_tok {k z:Nat→Int} {nf:Nat} {par:Nat→Int} {locals:Int} {j:Nat} (h:stepErr k z nf par locals j=0):tokErr (k j) (z j) nf locals=0∧¬asked k z par j=0:=by
 unfold stepErr at h
 split at h
 ·next h1 =>
  refine⟨h1,fun e=>?_⟩
  rw[if_pos e]at h;cases h
 ·next h1=>exact absurd h h1
theorem stepErr_bad {k z:Nat→Int} {nf:Nat} {par:Nat→Int} {locals:Int} {j:Nat} (h:¬tokErr (k j) (z j) nf locals=0):stepErr k z nf par locals j=tokErr (k j) (z j) nf locals:=if_neg h
theorem stepErr_over {k z:Nat→Int} {nf:Nat} {par:Nat→Int} {locals:Int} {j:Nat} (h:tokErr (k j) (z j) nf locals=0) (h0:asked k z par j=0):stepErr k z nf par locals j=4:=by
 unfold stepErr;rw[if_pos h,if_pos h0]
theorem stepErr_good {k z:Nat→Int} {nf:Nat} {par:Nat→Int} {locals:Int} {j:Nat} (h:tokErr (k j) (z j) nf locals=0) (h0:¬asked k z par j=0):stepErr k z nf par locals j=0:=by
 unfold stepErr;rw[if_pos h,if_neg h0]
theorem exprErr_many {n:Nat} {k z:Nat→Int} {nf:Nat} {par:Nat→Int} {locals:Int} (h:24<n):exprErr n k z nf par locals=2:=if_pos h
theorem exprErr_par {n:Nat} {k z:Nat→Int} {nf:Nat} {par:Nat→Int} {locals:Int} (h:¬24<n) {i:Nat} (hi:i<nf) (hb:¬parErr (par i)=0):exprErr n k z nf par locals=3:=by
 unfold exprErr
 rw[if_neg h,if_neg]
 intro e
 exact hb (firstErr_is_zero e i hi)
theorem exprErr_step {n:Nat} {k z:Nat→Int} {nf:Nat} {par:Nat→Int} {locals:Int} (h:¬24<n) (hp:∀i,i<nf→parErr (par i)=0) {j:Nat} (hj:j<n) (h0:∀x,x<j→stepErr k z nf par locals x=0) (hb:¬stepErr k z nf par locals j=0) :
  exprErr n k z nf par locals=stepErr k z nf par locals j:=by
 unfold exprErr
 have e:=firstErr_at h0 hb hj
 rw[if_neg h,if_pos (firstErr_zero hp),if_neg (by rw[e];exact hb),e]
theorem exprErr_end {n:Nat} {k z:Nat→Int} {nf:Nat} {par:Nat→Int} {locals:Int} (h:¬24<n) (hp:∀i,i<nf→parErr (par i)=0) (h0:∀x,x<n→stepErr k z nf par locals x=0) :
  exprErr n k z nf par locals=if 0<asked k z par n then 4 else 0:=by
 unfold exprErr
 rw[if_neg h,if_pos (firstErr_zero hp),if_pos (firstErr_zero h0)]
structure Nd where
 kind:Int
 num:Int
 ne:Nat
 ek:Nat→Int
 ez:Nat→Int
 nf:Nat
 fk:Nat→Int
 fz:Nat→Int
abbrev SL:=List (Nat×Bool)→Nat×(Nat→Nd)
def SL.len (T:SL):Nat:=(T []).1
def SL.nd (T:SL) (i:Nat):Nd:=(T []).2 i
def SL.sub (T:SL) (i:Nat) (b:Bool):SL:=fun p=>T ((i,b)::p)
def formErr (s:Nd) (la lb:Nat):Int :=
 if s.kind<1∨8<s.kind∨(¬s.num=0∧¬s.kind=1∧¬s.kind=2)∨(0<s.ne∧s.kind=4)∨(0<s.nf∧¬s.kind=2)∨(0<la∧¬s.kind=6∧¬s.kind=7)∨(0<lb∧¬s.kind=6) then 4 else 0
def numErr (s:Nd) (locals:Int):Int :=
 if (s.kind=1∧(s.num<0∨locals≤s.num))∨(s.kind=2∧(s.num<0∨3<s.num)) then 3 else 0
def stErr (nf:Nat) (par:Nat → Int) (locals:Int) (s:Nd) (la lb:Nat):Int :=
  if formErr s la lb = 0 then
    (if numErr s locals = 0 then
      (if s.kind = 4 then 0
       else if exprErr s.ne s.ek s.ez nf par locals = 0 then (if s.kind = 2 then exprErr s.nf s.fk s.fz nf par locals else 0)
       else exprErr s.ne s.ek s.ez nf par locals)
     else 3)
  else 4
def errs (E:Nd→Nat→Nat→Int):Nat→SL→Int
 | 0,_=>0
 | d+1,T=>firstErr T.len fun i =>
   if E (T.nd i) (T.sub i false).len (T.sub i true).len=0 then
    (if errs E d (T.sub i false)=0 then errs E d (T.sub i true) else errs E d (T.sub i false))
   else E (T.nd i) (T.sub i false).len (T.sub i true).len
def sumTo:Nat→(Nat→Nat)→Nat
 | 0,_=>0
 | n+1,f=>sumTo n f+f n
def size:Nat→SL→Nat
 | 0,_=>0
 | d+1,T=>sumTo T.len fun i=>1+size d (T.sub i false)+size d (T.sub i true)
def fits:Nat→SL→Nat→Prop
 | 0,_,_=>True
 | d+1,T,left=>T.len=0∨(0<left∧∀i,i<T.len→fits d (T.sub i false) (left - 1)∧fits d (T.sub i true) (left - 1))
theorem fits_zero {d:Nat} {T:SL} (h:T.len=0) (left:Nat):fits d T left:=by
 cases d with
 | zero=>trivial
 | succ d=>exact Or.inl h
theorem sumTo_mono {f:Nat→Nat} {j:Nat}:∀ {n:Nat},j≤n→sumTo j f≤sumTo n f
 | 0,h=>by
  obtain rfl:j=0:=by omega
  exact Nat.le_refl _
 | n+1,h=>by
  by_cases e:j=n+1
  ·subst e;exact Nat.le_refl _
  ·have:=sumTo_mono (f:=f) (j:=j) (n:=n) (by omega)
   simp only[sumTo];omega
def sound (d:Nat) (T:SL):Prop:=fits d T 4∧size d T≤30
def seqW (g:Nat→Nat→Int×Nat):Nat→Nat→Int×Nat
 | 0,c=>(0,c)
 | j+1,c=>if (seqW g j c).1=0 then g j (seqW g j c).2 else seqW g j c
def wk (L : Nat → Nd → Nat → Nat → Int → Int) : Nat → SL → Int → Nat → Int × Nat
  | 0, _, _, c => (0, c)
  | d + 1, T, dep, c => seqW (fun i c =>
      if L c (T.nd i) (T.sub i false).len (T.sub i true).len dep = 0 then
        (if (wk L d (T.sub i false) (dep + 1) (c + 1)).1 = 0 then wk L d (T.sub i true) (dep + 1) (wk L d (T.sub i false) (dep + 1) (c + 1)).2
         else wk L d (T.sub i false) (dep + 1) (c + 1))
      else (L c (T.nd i) (T.sub i false).len (T.sub i true).len dep, c + 1)) T.len c
def look1 (c:Nat) (_:Nd) (_ _:Nat) (dep:Int):Int:=if 30<c+1∨4<dep then 2 else 0
theorem wk_count : ∀ (d : Nat) (T : SL) (dep : Int) (c left : Nat), c ≤ 30 → dep + left = 5 → (fits d T left → c + size d T ≤ 30 → wk look1 d T dep c = (0, c + size d T)) ∧ (¬ (fits d T left ∧ c + size d T ≤ 30) → (wk look1 d T dep c).1 = 2)
  | 0, T, dep, c, left, hc, _ => ⟨fun _ _ => rfl, fun h => absurd ⟨trivial, hc⟩ h⟩
  | d + 1, T, dep, c, left, hc, hd => by
    simp only [wk, size, fits]
    have item : ∀ i c', c' ≤ 30 → (0 < left → fits d (T.sub i false) (left - 1) → fits d (T.sub i true) (left - 1) → c' + (1 + size d (T.sub i false) + size d (T.sub i true)) ≤ 30 →
        (if look1 c' (T.nd i) (T.sub i false).len (T.sub i true).len dep = 0 then
          (if (wk look1 d (T.sub i false) (dep + 1) (c' + 1)).1 = 0 then wk look1 d (T.sub i true) (dep + 1) (wk look1 d (T.sub i false) (dep + 1) (c' + 1)).2
           else wk look1 d (T.sub i false) (dep + 1) (c' + 1))
          else (look1 c' (T.nd i) (T.sub i false).len (T.sub i true).len dep, c' + 1)) = (0, c' + (1 + size d (T.sub i false) + size d (T.sub i true)))) ∧
        (¬ (0 < left ∧ fits d (T.sub i false) (left - 1) ∧ fits d (T.sub i true) (left - 1) ∧ c' + (1 + size d (T.sub i false) + size d (T.sub i true)) ≤ 30) →
        (if look1 c' (T.nd i) (T.sub i false).len (T.sub i true).len dep = 0 then
          (if (wk look1 d (T.sub i false) (dep + 1) (c' + 1)).1 = 0 then wk look1 d (T.sub i true) (dep + 1) (wk look1 d (T.sub i false) (dep + 1) (c' + 1)).2
           else wk look1 d (T.sub i false) (dep + 1) (c' + 1))
          else (look1 c' (T.nd i) (T.sub i false).len (T.sub i true).len dep, c' + 1)).1 = 2) := by
      intro i c' hc'
      by_cases hl : 30 < c' + 1 ∨ 4 < dep
      · have e : look1 c' (T.nd i) (T.sub i false).len (T.sub i true).len dep = 2 := if_pos hl
        rw [e]
        refine ⟨fun h1 _ _ h4 => by omega, fun _ => rfl⟩
      · have e : look1 c' (T.nd i) (T.sub i false).len (T.sub i true).len dep = 0 := if_neg hl
        rw [e, if_pos rfl]
        have hl2 : 0 < left := by omega
        obtain ⟨a1, a2⟩ := wk_count d (T.sub i false) (dep + 1) (c' + 1) (left - 1) (by omega) (by omega)
        by_cases hA : fits d (T.sub i false) (left - 1) ∧ c' + 1 + size d (T.sub i false) ≤ 30
        · have eA := a1 hA.1 hA.2
          rw [eA, if_pos rfl]
          obtain ⟨b1, b2⟩ := wk_count d (T.sub i true) (dep + 1) (c' + 1 + size d (T.sub i false)) (left - 1) (by omega) (by omega)
          refine ⟨fun _ _ h3 h4 => ?_, fun h => ?_⟩
          · rw [b1 h3 (by omega)]
            congr 1
            omega
          · exact b2 fun h' => h ⟨hl2, hA.1, h'.1, by omega⟩
        · have eA := a2 hA
          rw [if_neg (by rw [eA]; decide)]
          exact ⟨fun _ h2 _ h4 => absurd ⟨h2, by omega⟩ hA, fun _ => eA⟩
    generalize hg : (fun (i c : Nat) =>
        if look1 c (T.nd i) (T.sub i false).len (T.sub i true).len dep = 0 then
          (if (wk look1 d (T.sub i false) (dep + 1) (c + 1)).1 = 0 then wk look1 d (T.sub i true) (dep + 1) (wk look1 d (T.sub i false) (dep + 1) (c + 1)).2
           else wk look1 d (T.sub i false) (dep + 1) (c + 1))
        else (look1 c (T.nd i) (T.sub i false).len (T.sub i true).len dep, c + 1)) = g
    have item' : ∀ i c', c' ≤ 30 → (0 < left → fits d (T.sub i false) (left - 1) → fits d (T.sub i true) (left - 1) → c' + (1 + size d (T.sub i false) + size d (T.sub i true)) ≤ 30 → g i c' = (0, c' + (1 + size d (T.sub i false) + size d (T.sub i true)))) ∧
        (¬ (0 < left ∧ fits d (T.sub i false) (left - 1) ∧ fits d (T.sub i true) (left - 1) ∧ c' + (1 + size d (T.sub i false) + size d (T.sub i true)) ≤ 30) → (g i c').1 = 2) := by
      intro i c' h; subst hg; exact item i c' h
    clear item
    have all : ∀ n, ((∀ i, i < n → 0 < left ∧ fits d (T.sub i false) (left - 1) ∧ fits d (T.sub i true) (left - 1)) → c + sumTo n (fun i => 1 + size d (T.sub i false) + size d (T.sub i true)) ≤ 30 → seqW g n c = (0, c + sumTo n (fun i => 1 + size d (T.sub i false) + size d (T.sub i true)))) ∧
        (¬ ((∀ i, i < n → 0 < left ∧ fits d (T.sub i false) (left - 1) ∧ fits d (T.sub i true) (left - 1)) ∧ c + sumTo n (fun i => 1 + size d (T.sub i false) + size d (T.sub i true)) ≤ 30) → (seqW g n c).1 = 2) := by
      intro n
      induction n with
      | zero => exact ⟨fun _ _ => rfl, fun h => absurd ⟨fun i hi => absurd hi (Nat.not_lt_zero _), hc⟩ h⟩
      | succ n ih =>
        obtain ⟨i1, i2⟩ := ih
        simp only [sumTo, seqW]
        by_cases hA : (∀ i, i < n → 0 < left ∧ fits d (T.sub i false) (left - 1) ∧ fits d (T.sub i true) (left - 1)) ∧ c + sumTo n (fun i => 1 + size d (T.sub i false) + size d (T.sub i true)) ≤ 30
        · rw [i1 hA.1 hA.2, if_pos rfl]
          obtain ⟨j1, j2⟩ := item' n _ hA.2
          refine ⟨fun h1 h2 => ?_, fun h => ?_⟩
          · obtain ⟨p, q, r⟩ := h1 n (by omega)
            rw [j1 p q r (by omega)]
            congr 1
            omega
          · refine j2 fun ⟨p, q, r, s⟩ => h ⟨fun i hi => ?_, by omega⟩
            by_cases e : i = n
            · subst e; exact ⟨p, q, r⟩
            · exact hA.1 i (by omega)
        · have e := i2 hA
          rw [if_neg (by rw [e]; decide)]
          exact ⟨fun h1 h2 => absurd ⟨fun i hi => h1 i (by omega), by omega⟩ hA, fun _ => e⟩
    obtain ⟨a1, a2⟩ := all T.len
    refine ⟨fun h1 h2 => a1 (fun i hi => ?_) h2, fun h => a2 fun ⟨h1, h2⟩ => h ⟨?_, h2⟩⟩
    · rcases h1 with h1 | ⟨h1, h3⟩
      · omega
      · exact ⟨h1, h3 i hi⟩
    · by_cases e : T.len = 0
      · exact Or.inl e
      · exact Or.inr ⟨(h1 0 (by omega)).1, fun i hi => (h1 i hi).2⟩
def headErr (i:Nat) (par loc:Int):Int:=if par<0∨3<par∨loc<par∨6<loc∨(i=0∧0<par) then 3 else 0
def bodyErr (nf:Nat) (par:Nat→Int) (locals:Int) (d:Nat) (T:SL):Int :=
 if (wk look1 d T 1 0).1=0 then errs (stErr nf par locals) d T else 2
def progErr (nf:Nat) (par loc:Nat→Int) (d:Nat) (body:Nat→SL):Int :=
 if nf<1∨4<nf then 2
 else if firstErr nf (fun i=>headErr i (par i) (loc i))=0 then firstErr nf (fun i=>bodyErr nf par (loc i) d (body i))
 else 3
def fineB (d:Nat) (T:SL) (left:Nat):Bool:=(wk look1 d T (5 - left) 0).1 == 0
theorem fineB_iff {d:Nat} {T:SL} {left:Nat}:fineB d T left=true ↔ fits d T left∧size d T≤30:=by
 unfold fineB
 rw[beq_iff_eq]
 obtain⟨h1,h2⟩:=wk_count d T (5 - left) 0 left (by omega) (by omega)
 rw[Nat.zero_add]at h1 h2
 by_cases h:fits d T left∧size d T≤30
 ·rw[h1 h.1 h.2];exact⟨fun _=>h,fun _=>rfl⟩
 ·rw[h2 h];exact⟨fun e=>absurd e (by decide),fun e=>absurd e h⟩
theorem wk1_iff {d:Nat} {T:SL}:(wk look1 d T 1 0).1=0 ↔ sound d T:=by
 have:=fineB_iff (d:=d) (T:=T) (left:=4)
 unfold fineB at this
 rw[beq_iff_eq]at this
 exact this
theorem progErr_many {nf:Nat} {par loc:Nat→Int} {d:Nat} {body:Nat→SL} (h:nf<1∨4<nf):progErr nf par loc d body=2:=if_pos h
theorem progErr_head {nf:Nat} {par loc:Nat→Int} {d:Nat} {body:Nat→SL} (h:¬(nf<1∨4<nf)) {i:Nat} (hi:i<nf) (hb:¬headErr i (par i) (loc i)=0):progErr nf par loc d body=3:=by
 unfold progErr
 rw[if_neg h,if_neg]
 intro e
 exact hb (firstErr_is_zero e i hi)
theorem progErr_body {nf:Nat} {par loc:Nat→Int} {d:Nat} {body:Nat→SL} (h:¬(nf<1∨4<nf)) (hh:∀i,i<nf→headErr i (par i) (loc i)=0):progErr nf par loc d body=firstErr nf (fun i=>bodyErr nf par (loc i) d (body i)):=by
 unfold progErr
 rw[if_neg h,if_pos (firstErr_zero hh)]
end
end Go.Proofs.YtfaokaohhchdhaaGreatDoor
