/- What the statements' own walks want of package vm: contracts of its functions over states that lie apart, lists of numbers, boxes of states. -/
import Derived.Test.YtfaokaohhchdhaaGreatDoorVmWake
import Derived.Test.YtfaokaohhchdhaaGreatDoorPart19
import Derived.Test.YtfaokaohhchdhaaGreatDoorPart26
import Derived.Test.YtfaokaohhchdhaaGreatDoorPart27
import Derived.Test.YtfaokaohhchdhaaGreatDoorPart29
import Derived.Test.YtfaokaohhchdhaaGreatDoorPart0
import Derived.Lib.OwnKind
import Derived.Test.YtfaokaohhchdhaaGreatDoorPart1
namespace Go.Proofs.YtfaokaohhchdhaaGreatDoor
open Go.RowKit Go.Maps
theorem eqV_list {L M : List (Int×Int)} : eqV L.length M.length (fstAt L) (sndAt L) (fstAt M) (sndAt M)=true ↔ L=M:=by
 rw [eqV_iff]
 constructor
 ·rintro ⟨hl,h⟩
  apply List.ext_getElem hl
  intro i h1 h2
  obtain ⟨a,b⟩:=h i h1
  unfold fstAt at a
  unfold sndAt at b
  rw [List.getD_eq_getElem?_getD,List.getD_eq_getElem?_getD,List.getElem?_eq_getElem h1,List.getElem?_eq_getElem h2] at a b
  exact Prod.ext a b
 ·rintro rfl
  exact ⟨rfl,fun _ _ => ⟨rfl,rfl⟩⟩
theorem eqFm_iff {f g : Fm} : eqFm f g=true ↔ f=g:=by
 unfold eqFm
 rw [Bool.and_eq_true,Bool.and_eq_true,Bool.and_eq_true,beq_iff_eq,beq_iff_eq,beq_iff_eq,eqV_list]
 cases f; cases g
 simp only [Fm.mk.injEq]
 constructor
 ·rintro ⟨a,b,c,d⟩; exact ⟨a,b,d,c⟩
 ·rintro ⟨a,b,d,c⟩; exact ⟨a,b,c,d⟩
theorem eqFs_list {F G : List Fm} : eqFs F G=true ↔ F=G:=by
 rw [eqFs_iff]
 constructor
 ·rintro ⟨hl,h⟩
  apply List.ext_getElem hl
  intro i h1 h2
  have:=eqFm_iff.1 (h i h1)
  unfold fmAt at this
  rw [List.getD_eq_getElem?_getD,List.getD_eq_getElem?_getD,List.getElem?_eq_getElem h1,List.getElem?_eq_getElem h2] at this
  exact this
 ·rintro rfl
  exact ⟨rfl,fun _ _ => eqFm_iff.2 rfl⟩
theorem eqCs_list {C D : List (List (Int×Int))} : eqCs C D=true ↔ C=D:=by
 unfold eqCs
 rw [eqCl_iff]
 constructor
 ·rintro ⟨hl,h⟩
  apply List.ext_getElem hl
  intro i h1 h2
  have:=eqV_list.1 (h i h1)
  rw [List.getD_eq_getElem?_getD,List.getD_eq_getElem?_getD,List.getElem?_eq_getElem h1,List.getElem?_eq_getElem h2] at this
  exact this
 ·rintro rfl
  exact ⟨rfl,fun _ _ => eqV_list.2 rfl⟩
theorem eqSt_iff {S T : Sta} : eqSt S T=true ↔ S=T:=by
 unfold eqSt
 rw [Bool.and_eq_true,Bool.and_eq_true,Bool.and_eq_true,beq_iff_eq,beq_iff_eq,eqFs_list,eqCs_list]
 cases S; cases T
 simp only [Sta.mk.injEq]
 constructor
 ·rintro ⟨a,b,c,d⟩; exact ⟨c,d,a,b⟩
 ·rintro ⟨c,d,a,b⟩; exact ⟨a,b,c,d⟩
def lz (l : List Int) (i : Nat) : Int:=l.getD i 0
def SOwn (B : Nat) (w : World) (fv cv : Value) (S : Sta) : Prop:=∃ rv xv,Own B w fv cv rv xv S
theorem SOwn.stay {B : Nat} {w w' : World} {fv cv : Value} {S : Sta} (h : SOwn B w fv cv S) (hb : ∀ k,B≤k→k < w.heap.size→w'.heap[k]?=w.heap[k]?) : SOwn B w' fv cv S:=let ⟨rv,xv,h⟩:=h; ⟨rv,xv,h.stay hb⟩
theorem SOwn.below {B : Nat} {w w' : World} {fv cv : Value} {S : Sta} (h : SOwn B w fv cv S) (hb : Below w.heap.size w w') : SOwn B w' fv cv S:=h.stay fun k _ hk => hb.block k hk
theorem SOwn.at {B : Nat} {w : World} {fv cv : Value} {S : Sta} {np : Nat} {P : Nat→Pc} (h : SOwn B w fv cv S) (hc : CodeOK np P) (ok : StaOK np P S) : StaAt w fv cv S:=by
 obtain ⟨rv,xv,h⟩:=h
 refine h.at (by have:=ok.few; omega) (by have:=ok.cn; omega) (fun i hi => ?_) fun i hi => ?_
 ·have k:=ok.frames i hi
  have hpn : (fmAt S.fs i).proc.toNat < np:=by have:=k.p0; have:=k.p1; omega
  have:=hc.r1 _ hpn
  have:=k.len
  omega
 ·have hm:=getD_mem (d:=[]) hi
  have:=ok.cells.hi _ hm
  omega
def NOwn (B : Nat) (w : World) (v : Value) (l : List Int) : Prop:=w.ownsRow B 3 1 v l.length (l.map (Value.int .i64))
theorem NOwn.stay {B : Nat} {w w' : World} {v : Value} {l : List Int} (h : NOwn B w v l) (hb : ∀ k,B≤k→k < w.heap.size→w'.heap[k]?=w.heap[k]?) : NOwn B w' v l:=ownsRow_block h fun k hk => hb k (h.lt k hk).1 (h.lt k hk).2
theorem NOwn.below {B : Nat} {w w' : World} {v : Value} {l : List Int} (h : NOwn B w v l) (hb : Below w.heap.size w w') : NOwn B w' v l:=h.stay fun k _ hk => hb.block k hk
theorem NOwn.nums {B : Nat} {w : World} {v : Value} {l : List Int} (h : NOwn B w v l) (hl : l.length≤1000000) : NumsAt w.heap.size w v l.length (lz l):=by
 obtain ⟨a,cap,rfl,h0 | ⟨b,o,rfl,hb,hc⟩⟩:=own_intsv h
 ·exact ⟨a,cap,rfl,by omega,Or.inl h0⟩
 ·exact ⟨_,cap,rfl,by omega,Or.inr ⟨b,o,rfl,hb,hc⟩⟩
def RunK (w : World) (S' : Sta) (said : List Int) (k : Nat) (e : Ending) (w' : World) : Prop :=
 ∃ fa fc ca cc sa sc,e=.returned (.tuple #[.agg #[.slice fa S'.fs.length fc,.slice ca S'.cs.length cc,.int .i64 S'.st,.int .i64 S'.wh],.slice sa said.length sc,.int .i64 k,.int .i64 0]) ∧
  Hid (SOwn w.heap.size w' (.slice fa S'.fs.length fc) (.slice ca S'.cs.length cc) S')∧Hid (NOwn w.heap.size w' (.slice sa said.length sc) said)∧Below w.heap.size w w'
def StaK (w : World) (S' : Sta) (e : Ending) (w' : World) : Prop :=
 ∃ fa fc ca cc,e=.returned (.tuple #[.agg #[.slice fa S'.fs.length fc,.slice ca S'.cs.length cc,.int .i64 S'.st,.int .i64 S'.wh],.int .i64 0]) ∧
  Hid (SOwn w.heap.size w' (.slice fa S'.fs.length fc) (.slice ca S'.cs.length cc) S')∧Below w.heap.size w w'
theorem own_len {B : Nat} {w : World} {e : TypeId} {s n m c : Nat} {a : Option Addr} {xs : List Value} (h : w.ownsRow B e s (.slice a m c) n xs) : m=n:=by
 obtain ⟨_,_,e⟩:=own_shape h
 injection e
section
variable {np : Nat} {P : Nat→Pc}
theorem runK (M : Nat) (vp fv cv : Value) (S : Sta) (fuel : Nat) (w : World) (hM : M≤w.heap.size) (hp : ProcsAt M w vp np P) (hs : StaAt w fv cv S) (he : runErr np P S fuel=0) :
  Calls Tryz.prog 13 #[vp,.agg #[fv,cv,.int .i64 S.st,.int .i64 S.wh],.int .i64 fuel] w (RunK w (runM P fuel ⟨S,[],false⟩).1.s (runM P fuel ⟨S,[],false⟩).1.said (runM P fuel ⟨S,[],false⟩).2):=by
 refine (runP newC callC M vp fv cv S fuel w hM hp hs he).mono ?_
 rintro e w' ⟨fa,nf,fc,ca,nc,cc,sa,sc,rv,xv,rfl,ho,hn,hb⟩
 obtain rfl:=own_len ho.fr
 obtain rfl:=own_len ho.ce
 exact ⟨fa,fc,ca,cc,sa,sc,rfl,⟨rv,xv,ho⟩,hn,hb⟩
theorem wakeK (M : Nat) (vp fv cv : Value) (S : Sta) (w : World) (hM : M≤w.heap.size) (hp : ProcsAt M w vp np P) (hs : StaAt w fv cv S) (hv : vmErr np P S=0) (h3 : S.st=3) :
  Calls Tryz.prog 14 #[vp,.agg #[fv,cv,.int .i64 S.st,.int .i64 S.wh]] w (StaK w ⟨S.fs,S.cs,0,0⟩):=by
 refine (wakeP M vp fv cv S w hM hp hs hv h3).mono ?_
 rintro e w' ⟨fa,nf,fc,ca,nc,cc,rv,xv,rfl,ho,hb⟩
 obtain rfl:=own_len ho.fr
 obtain rfl:=own_len ho.ce
 exact ⟨fa,fc,ca,cc,rfl,⟨rv,xv,ho⟩,hb⟩
theorem newK (M : Nat) (vp : Value) (w : World) (hM : M≤w.heap.size) (hp : ProcsAt M w vp np P) (he : codeErr np P=0) :
  Calls Tryz.prog 12 #[vp] w (StaK w ⟨[⟨0,0,List.replicate (P 0).regs.toNat (0,0),0⟩],[],0,0⟩):=by
 refine (newP M vp w hM hp he).mono ?_
 rintro e w' ⟨fa,nf,fc,ca,nc,cc,rv,xv,rfl,ho,hb⟩
 obtain rfl:=own_len ho.fr
 obtain rfl:=own_len ho.ce
 exact ⟨fa,fc,ca,cc,rfl,⟨rv,xv,ho⟩,hb⟩
theorem sweepK (S : Sta) (fv cv : Value) (w : World) (h : StaAt w fv cv S) (hc : CodeOK np P) (hs : StaOK np P S) :
  Calls Tryz.prog 21 #[.agg #[fv,cv,.int .i64 S.st,.int .i64 S.wh]] w fun e w' => ∃ fa fc ca cc,e=.returned (.agg #[.slice fa (sweptS S).fs.length fc,.slice ca (sweptS S).cs.length cc,.int .i64 S.st,.int .i64 S.wh])∧Hid (SOwn w.heap.size w' (.slice fa (sweptS S).fs.length fc) (.slice ca (sweptS S).cs.length cc) (sweptS S))∧Below w.heap.size w w':=by
 refine (sweepP S fv cv w h hc hs).mono ?_
 rintro e w' ⟨fv',cv',rv,xv,rfl,ho,hb⟩
 obtain ⟨a,c,rfl⟩:=own_shape ho.out.fr
 obtain ⟨b,d,rfl⟩:=own_shape ho.out.ce
 exact ⟨a,c,b,d,rfl,⟨rv,xv,ho.out⟩,hb.out⟩
end
theorem NOwn.keep {B : Nat} {w w' : World} {v : Value} {l : List Int} (h : NOwn B w v l) (hk : ∀ t,¬ t=26→Keeps t w w') : NOwn B w' v l:=own_keep h (hk 3 (by decide))
theorem box_put {X : Nat} {w : World} {a b c d : Value} (a' b' c' d' : Value) (h : Box4 26 X w a b c d) : ∃ W,((((w.setCell ⟨X,0,none⟩ a').setCell ⟨X,1,none⟩ b').setCell ⟨X,2,none⟩ c').setCell ⟨X,3,none⟩ d')=W∧Box4 26 X W a' b' c' d'∧(∀ k,¬ k=X→W.heap[k]?=w.heap[k]?)∧W.heap.size=w.heap.size∧(∀ N,N≤X→Below N w W)∧∀ t,¬ t=26→Keeps t w W:=by
 refine ⟨_,rfl,?_,fun k hk => set4_heap hk,by simp,fun N hN => ?_,fun t ht k cur hk => ?_⟩
 ·unfold Box4 at h ⊢
  have h1:=heap_setCell_same w X 0 _ _ a' h
  have h2:=heap_setCell_same _ X 1 _ _ b' h1
  have h3:=heap_setCell_same _ X 2 _ _ c' h2
  exact heap_setCell_same _ X 3 _ _ d' h3
 ·exact ((((Below.refl _ _).setCell hN _).setCell hN _).setCell hN _).setCell hN _
 ·rw [set4_heap]
  ·exact hk
  ·intro e
   unfold Box4 at h
   rw [e,h] at hk
   injection hk with hk
   injection hk with _ hk _
   exact ht hk.symm
theorem but_put {X : Nat} {w W : World} (hk : ∀ k,¬ k=X→W.heap[k]?=w.heap[k]?) (hs : W.heap.size=w.heap.size) (hb : ∀ N,N≤X→Below N w W) : But X w W :=
 ⟨(hb 0 (Nat.zero_le _)).os,(hb 0 (Nat.zero_le _)).tape,(hb 0 (Nat.zero_le _)).output,Nat.le_of_eq hs.symm,fun k _ hx => hk k hx⟩
end Go.Proofs.YtfaokaohhchdhaaGreatDoor
namespace Go.Proofs.YtfaokaohhchdhaaGreatDoor
def lastI (k z : Int) (tn cnt : Nat) : List Int :=
 if k=1 then [1,(tn : Int),z,0]
 else if k=2 then [2,(tn : Int),z,0]
 else if k=3 then [3,(tn : Int),(tn : Int),(tn : Int) + 1,z]
 else if k=4 then [4,(tn : Int),(tn : Int),z]
 else if k=5 then [5,(tn : Int),z,0]
 else [7,(tn : Int),z,0] ++ (List.range cnt).map (fun (j : Nat) => (tn : Int) + (j : Int))
def seqM (f : Nat→Nat→Option (List (List Int)×Nat)) (a tn : Nat) : Nat→Option (List (List Int)×Nat)
 | 0 => some ([],a)
 | c + 1 => (seqM f a tn c).bind fun r => (f r.2 (tn + c)).map fun s => (r.1 ++ s.1,s.2)
def valM (n nf : Nat) (k z : Nat→Int) (par : Nat→Int) : Nat→Nat→Nat→Option (List (List Int)×Nat)
 | 0,_,_ => none
 | fuel + 1,a,tn =>
  if a < n∧1≤k a∧k a≤6∧0≤asksOf (k a) (z a) par∧asksOf (k a) (z a) par≤3∧(k a=6→0≤z a∧z a < nf) then
   (seqM (valM n nf k z par fuel) (a + 1) tn (asksOf (k a) (z a) par).toNat).map fun r => (r.1 ++ [lastI (k a) (z a) tn (asksOf (k a) (z a) par).toNat],r.2)
  else none
def oneM (nf : Nat) (par : Nat→Int) (free : Nat) (sub : Bool→Nat→Option (List (List Int))) (s : Nd) (here : Nat) : Option (List (List Int)) :=
 (if s.ne=0 then some [] else (valM s.ne nf s.ek s.ez par s.ne 0 free).map fun r => r.1).bind fun c =>
  if s.kind=1 then some (c ++ [[2,s.num,(free : Int),0]])
  else if s.kind=2 then (valM s.nf nf s.fk s.fz par s.nf 0 (free + 1)).map fun d => c ++ d.1 ++ [[6,(free : Int),(free : Int) + 1,s.num]]
  else if s.kind=3 then some (c ++ [[9,(free : Int),0,0]])
  else if s.kind=4 then some (c ++ [[10,0,0,0]])
  else if s.kind=5 then some (c ++ [[11,(free : Int),0,0]])
  else if s.kind=8 then some (c ++ [[8,(free : Int),0,0]])
  else if s.kind=6∨s.kind=7 then
   (sub false (here + c.length + 1)).bind fun x => (sub true (here + c.length + 1 + x.length + 1)).map fun y =>
    c ++ [[13,(free : Int),((here + c.length + 1 + x.length + 1 : Nat) : Int),0]] ++ x ++ [[12,0,(if s.kind=7 then ((here : Nat) : Int) else ((here + c.length + 1 + x.length + 1 + y.length : Nat) : Int)),0]] ++ y
  else none
def iterM (g : Nat→Nat→Option (List (List Int))) (at0 : Nat) : Nat→Option (List (List Int))
 | 0 => some []
 | i + 1 => (iterM g at0 i).bind fun out => (g i (at0 + out.length)).map fun c => out ++ c
def codM (nf : Nat) (par : Nat→Int) (free : Nat) : Nat→SL→Nat→Option (List (List Int))
 | 0,T,_ => if T.len=0 then some [] else none
 | d + 1,T,at0 => iterM (fun i here => oneM nf par free (fun b at1 => codM nf par free d (T.sub i b) at1) (T.nd i) here) at0 T.len
def codedM (nf : Nat) (par loc : Nat→Int) (d : Nat) (body : Nat→SL) (j : Nat) : Option (List (List Int)) :=
 (codM nf par (loc j).toNat d (body j) 0).map fun c => c ++ [[1,loc j,0,0],[8,loc j,0,0]]
def pcOf (par : Nat→Int) (L : Nat→List (List Int)) (j : Nat) : Pc:=⟨par j,30,(L j).length,fun k => insOf ((L j).getD k [])⟩
end Go.Proofs.YtfaokaohhchdhaaGreatDoor
namespace Go.Proofs.YtfaokaohhchdhaaGreatDoor
open Go.RowKit Go.Maps
theorem append_insS {ops : Array Oper} {rest : List Oper} {o : Oper} {a : Act} {Q : Exit→Act→World→Prop} (w : World) (hgd : o.guard=none) (s y : Operand)
  (ho : o.op=.call { callee:=.builtin .append,args:=#[s,y],argTypes:=#[36,36] }) (base : Nat) (v : Value) (n0 : Nat) (xs : List Value) (hs : a.eval s=v) (hown : w.ownsRow base 84 5 v n0 xs)
  (ad : Addr) (n c : Nat) (news : List Value) (hy : a.eval y=.slice (some ad) n c) (hln : news.length=n * 5) (hnews : ∀ j u,news[j]?=some u→w.cell? (ad.add j)=some u) (h1 : ∀ u ∈ news,u.oneCell'=true) (hR : n0 + n≤100000) (hbase : base≤w.heap.size)
  (h : ∀ ad' cap w2,w2.ownsRow base 84 5 (.slice ad' (n0 + n) cap) (n0 + n) (xs ++ news)→w.grownBy w2 v.ownBlock→wpList Tryz.prog ops Q rest (a.put o.dst (.slice ad' (n0 + n) cap)) w2) :
  wpList Tryz.prog ops Q (o :: rest) a w:=by
 obtain ⟨i0,hi,hz0,hz1,hz2⟩:=info_parts infoIns
 refine wpList_append_own _ hgd s y 36 ho base 84 i0 (.agg #[.int .i64 0,.int .i64 0,.int .i64 0,.int .i64 0,.slice none 0 0]) 5 56 Tryz.underlying36 hi hz0 hz1 hz2 rfl (by decide) v n0 xs hs hown ad n c news hy hln hnews h1 (by unfold maxLen; omega) (by omega) hbase ?_
 intro v' w2 hr hg _
 obtain ⟨ad',cap,rfl⟩:=own_shape hr
 exact h ad' cap w2 hr hg
theorem flatI_append : ∀ (l m : List (List Int×Value)),flatI (l ++ m)=flatI l ++ flatI m
 | [],m => rfl
 | x :: l,m => by rw [List.cons_append,flatI,flatI_append l m,flatI,List.append_assoc]
theorem CodeRow.news {C : Nat} {w : World} {v : Value} {l : List (List Int×Value)} (h : CodeRow C w v l) (hn : ¬ l.length=0) : ∃ g cap,v=.slice (some ⟨g,0,none⟩) l.length cap∧C≤g∧g < w.heap.size∧∀ j x,(flatI l)[j]?=some x→w.cell? ((⟨g,0,none⟩ : Addr).add j)=some x:=by
 rcases h.1.2 with ⟨_,h0⟩ | ⟨g,cap,cur,rfl,hC,hg,_⟩
 ·exact absurd h0 hn
 ·refine ⟨g,cap,rfl,hC,(Array.getElem?_eq_some_iff.1 hg).1,fun j x hj => ?_⟩
  rw [WideShapes.add_plain,Nat.zero_add]
  have hl:=flatI_len l
  rw [h.1.cellAt j (by have:=(List.getElem?_eq_some_iff.1 hj).1; omega)]
  exact hj
theorem flatI_one {l : List (List Int×Value)} (h : ∀ x ∈ l,Value.oneCell' x.2=true) : ∀ u ∈ flatI l,u.oneCell'=true:=by
 induction l with
 | nil => intro u hu; cases hu
 | cons x l ih =>
  intro u hu
  rw [flatI,List.mem_append] at hu
  rcases hu with hu | hu
  ·simp only [List.mem_cons,List.not_mem_nil,or_false] at hu
   rcases hu with rfl | rfl | rfl | rfl | rfl
   ·rfl
   ·rfl
   ·rfl
   ·rfl
   ·exact h x (by simp)
  ·exact ih (fun y hy => h y (by simp [hy])) u hu
theorem CodeRow.one {C : Nat} {w : World} {v : Value} {l : List (List Int×Value)} (h : CodeRow C w v l) : ∀ u ∈ flatI l,u.oneCell'=true :=
 flatI_one fun x hx => by
  obtain ⟨a,cap,e,_⟩:=h.2 x hx
  rw [e]; rfl
def ArgB (v : Value) (k : Nat) : Prop:=∃ o n c,v=.slice (some ⟨k,o,none⟩) n c
theorem ArgsAt.but {w w' : World} {v : Value} {n : Nat} {z : Nat→Int} (h : ArgsAt w v n z) (hk : ∀ k,ArgB v k→w'.heap[k]?=w.heap[k]?) : ArgsAt w' v n z:=by
 obtain ⟨a,cap,rfl,hn,h | ⟨g,o,cur,rfl,hg,hc⟩⟩:=h
 ·exact ⟨a,cap,rfl,hn,Or.inl h⟩
 ·exact ⟨_,cap,rfl,hn,Or.inr ⟨g,o,cur,rfl,(hk g ⟨o,n,cap,rfl⟩).trans hg,hc⟩⟩
def InsRow (B : Nat) (no : Nat→Prop) (w : World) (v : Value) (L : List (List Int)) : Prop :=
 ∃ items,CodeRow B w v items∧items.map (·.1)=L∧∀ x ∈ items,∀ k,ArgB x.2 k→B≤k∧k < w.heap.size∧¬ no k
theorem InsRow.nil (B : Nat) (no : Nat→Prop) (w : World) : InsRow B no w (.slice none 0 0) []:=⟨[],CodeRow.nil B w,rfl,fun x hx => by cases hx⟩
theorem InsRow.stay {B : Nat} {no : Nat→Prop} {w w' : World} {v : Value} {L : List (List Int)} (h : InsRow B no w v L) (hs : w.heap.size≤w'.heap.size) (hv : ∀ k,v.ownBlock=some k→w'.heap[k]?=w.heap[k]?) (hk : ∀ k,B≤k→k < w.heap.size→¬ no k→¬ v.ownBlock=some k→w'.heap[k]?=w.heap[k]?) : InsRow B no w' v L:=by
 obtain ⟨items,h1,h2,h3⟩:=h
 refine ⟨items,⟨?_,fun x hx => (h1.2 x hx).but fun k hka => ?_⟩,h2,fun x hx k hka => ?_⟩
 ·exact ⟨h1.1.1,by
   rcases h1.1.2 with hn | ⟨g,cap,cur,rfl,hg,hh,r⟩
   ·exact Or.inl hn
   ·exact Or.inr ⟨g,cap,cur,rfl,hg,by rw [hv g rfl]; exact hh,r⟩⟩
 ·obtain ⟨a1,a2,a3⟩:=h3 x hx k hka
  by_cases e : v.ownBlock=some k
  ·exact hv k e
  ·exact hk k a1 a2 a3 e
 ·obtain ⟨a1,a2,a3⟩:=h3 x hx k hka
  exact ⟨a1,by omega,a3⟩
theorem InsRow.below {B : Nat} {no : Nat→Prop} {w w' : World} {v : Value} {L : List (List Int)} (h : InsRow B no w v L) (hb : Below w.heap.size w w') : InsRow B no w' v L :=
 h.stay hb.size (fun k hk => hb.block k (by
  obtain ⟨items,h1,_⟩:=h
  exact (h1.1.lt k hk).2)) fun k _ hk _ _ => hb.block k hk
theorem InsRow.lower {B B' : Nat} {no no' : Nat→Prop} {w : World} {v : Value} {L : List (List Int)} (h : InsRow B no w v L) (hb : B'≤B) (hn : ∀ k,B≤k→no' k→no k) : InsRow B' no' w v L:=by
 obtain ⟨items,h1,h2,h3⟩:=h
 refine ⟨items,⟨⟨h1.1.1,?_⟩,h1.2⟩,h2,fun x hx k hk => ?_⟩
 ·rcases h1.1.2 with e | ⟨g,cap,cur,e,hg,r⟩
  ·exact Or.inl e
  ·exact Or.inr ⟨g,cap,cur,e,by omega,r⟩
 ·obtain ⟨a1,a2,a3⟩:=h3 x hx k hk
  exact ⟨by omega,a2,fun e => a3 (hn k a1 e)⟩
theorem InsRow.shape {B : Nat} {no : Nat→Prop} {w : World} {v : Value} {L : List (List Int)} (h : InsRow B no w v L) : ∃ a c,v=.slice a L.length c:=by
 obtain ⟨items,h1,h2,h3⟩:=h
 obtain ⟨a,c,e⟩:=own_shape h1.1
 exact ⟨a,c,by rw [e,← h2,List.length_map]⟩
theorem insJoin {B B2 : Nat} {no : Nat→Prop} {w w2 : World} {v u v' : Value} {L M : List (List Int)} (hB : B≤B2) {items items2 : List (List Int×Value)} (hi : CodeRow B w v items∧items.map (·.1)=L∧∀ x ∈ items,∀ k,ArgB x.2 k→B≤k∧k < w.heap.size∧¬ no k)
  (hi2 : CodeRow B2 w u items2∧items2.map (·.1)=M∧∀ x ∈ items2,∀ k,ArgB x.2 k→B2≤k∧k < w.heap.size∧¬ no k) (hown : w2.ownsRow B 84 5 v' (L.length + M.length) (flatI items ++ flatI items2)) (hgr : w.grownBy w2 v.ownBlock) : InsRow B no w2 v' (L ++ M):=by
 obtain ⟨c1,e1,a1⟩:=hi
 obtain ⟨c2,e2,a2⟩:=hi2
 have hne : ∀ x k,ArgsAt w x (0 + 0) (fun _ => 0)∨True→ArgB x k→(∃ cur,w.heap[k]?=some (.cells cur 3 (0,0)))→¬ v.ownBlock=some k:=fun x k _ _ hc e => by
  obtain ⟨c,fz,q⟩:=Lib.ownsRow_kind c1.1 k e
  obtain ⟨cur,hc⟩:=hc
  rw [hc] at q
  injection q with q; injection q with _ q _; exact absurd q (by decide)
 have keep : ∀ (x : Value) (n : Nat) (z : Nat→Int),ArgsAt w x n z→ArgsAt w2 x n z:=fun x n z hx => by
  obtain ⟨a,cap,rfl,hn,h0 | ⟨g,o,cur,rfl,hg,hc⟩⟩:=hx
  ·exact ⟨a,cap,rfl,hn,Or.inl h0⟩
  ·refine ⟨_,cap,rfl,hn,Or.inr ⟨g,o,cur,rfl,?_,hc⟩⟩
   rw [hgr.block g (Array.getElem?_eq_some_iff.1 hg).1 (fun e => hne _ g (Or.inr trivial) ⟨o,n,cap,rfl⟩ ⟨cur,hg⟩ e.symm)]
   exact hg
 refine ⟨items ++ items2,⟨?_,fun x hx => ?_⟩,by rw [List.map_append,e1,e2],fun x hx k hk => ?_⟩
 ·have hl1 : items.length=L.length:=by rw [← e1,List.length_map]
  have hl2 : items2.length=M.length:=by rw [← e2,List.length_map]
  rw [List.length_append,flatI_append,hl1,hl2]
  exact hown
 ·rcases List.mem_append.1 hx with hx | hx
  ·exact keep _ _ _ (c1.2 x hx)
  ·exact keep _ _ _ (c2.2 x hx)
 ·rcases List.mem_append.1 hx with hx | hx
  ·obtain ⟨b1,b2,b3⟩:=a1 x hx k hk
   exact ⟨b1,Nat.lt_of_lt_of_le b2 hgr.size,b3⟩
  ·obtain ⟨b1,b2,b3⟩:=a2 x hx k hk
   exact ⟨by omega,Nat.lt_of_lt_of_le b2 hgr.size,b3⟩
theorem append_insR {ops : Array Oper} {rest : List Oper} {o : Oper} {a : Act} {Q : Exit→Act→World→Prop} (w : World) (hgd : o.guard=none) (s y : Operand)
  (ho : o.op=.call { callee:=.builtin .append,args:=#[s,y],argTypes:=#[36,36] }) (B B2 : Nat) (no : Nat→Prop) (v u : Value) (L M : List (List Int)) (hs : a.eval s=v) (hy : a.eval y=u) (hv : InsRow B no w v L) (hu : InsRow B2 no w u M) (hBB : B≤B2) (hM : ¬ M.length=0) (hl : L.length + M.length≤100000) (hB : B≤w.heap.size)
  (h : ∀ ad cap w2,Hid (InsRow B no w2 (.slice ad (L.length + M.length) cap) (L ++ M))→Hid (w.grownBy w2 v.ownBlock)→wpList Tryz.prog ops Q rest (a.put o.dst (.slice ad (L.length + M.length) cap)) w2) :
  wpList Tryz.prog ops Q (o :: rest) a w:=by
 obtain ⟨items,c1,e1,a1⟩:=id hv
 obtain ⟨items2,c2,e2,a2⟩:=id hu
 have hl1 : items.length=L.length:=by rw [← e1,List.length_map]
 have hl2 : items2.length=M.length:=by rw [← e2,List.length_map]
 obtain ⟨g,cap,rfl,hg1,hg2,hnews⟩:=c2.news (by omega)
 rw [hl2] at hy
 have hown:=c1.1
 rw [hl1] at hown
 refine append_insS w hgd s y ho B v L.length (flatI items) hs hown ⟨g,0,none⟩ M.length cap (flatI items2) hy (by rw [flatI_len,hl2]) hnews c2.one hl hB ?_
 intro ad' cp w2 h1 h2
 exact h ad' cp w2 (insJoin hBB ⟨c1,e1,a1⟩ ⟨c2,e2,a2⟩ h1 h2) h2
end Go.Proofs.YtfaokaohhchdhaaGreatDoor
namespace Go.Proofs.YtfaokaohhchdhaaGreatDoor
open Go.RowKit
set_option maxHeartbeats 2000000 in
theorem refCheckTok (k z : Int) (a : Option Addr) (nf cap : Nat) (locals : Int) (w : World) :
  Calls Tryz.prog 147 #[.agg #[.int .i64 k,.int .i64 z],.slice a nf cap,.int .i64 locals] w fun e w' => e=.returned (.int .i64 (tokErr k z nf locals))∧Below w.heap.size w w':=by
 go_enter Tryz.func147,Tryz.ntmps147
 go_wp2
 all_goals
  go_ret
  refine ⟨ret_num ?_,below_alloc _ _⟩
  go_light
  try simp only [beq_iff_eq,ne_eq,beq_eq_false_iff_ne,Bool.not_eq_true',Bool.not_eq_false',decide_eq_false_iff_not,decide_eq_true_eq] at *
  unfold tokErr
  (repeat' split) <;> omega
set_option maxHeartbeats 1000000 in
theorem refAsks (N : Nat) (k z : Int) (v : Value) (nf : Nat) (par loc : Nat→Int) (bv : Nat→Value) (w : World) (h : FunsAt N w v nf par loc bv) (hc : k=6→0≤z∧z.toNat < nf) :
  Calls Tryz.prog 148 #[.agg #[.int .i64 k,.int .i64 z],v] w fun e w' => e=.returned (.int .i64 (asksOf k z par))∧Below w.heap.size w w':=by
 by_cases hk : k=6
 ·obtain ⟨h0,h1⟩:=hc hk
  obtain ⟨i,rfl⟩ : ∃ i : Nat,z=i:=⟨z.toNat,by omega⟩
  have hi : i < nf:=by omega
  obtain ⟨a,cap,rfl,hn,h | ⟨b,o,rfl,hlt,g⟩⟩:=h
  ·omega
  obtain ⟨c0,c1,c2,_⟩:=g i hi
  have l0:=cell_lt c0
  have HE : Hid (asksOf k i par=par i):=by
   show asksOf k i par=par i
   subst hk; simp [asksOf]
  clear g hc h1
  subst hk
  go_enter Tryz.func148,Tryz.ntmps148
  go_wp2
  go_ret
  exact ⟨ret_num HE.out.symm,below_alloc _ _⟩
 ·obtain ⟨a,cap,rfl,hn,_⟩:=h
  have hkt : (k == 6)=false:=by simp [hk]
  clear hc
  go_enter Tryz.func148,Tryz.ntmps148
  go_wp2
  all_goals
   go_ret
   refine ⟨ret_num ?_,below_alloc _ _⟩
   go_light
   simp only [beq_iff_eq,beq_eq_false_iff_ne,ne_eq] at *
   unfold asksOf
   (repeat' split) <;> omega
end Go.Proofs.YtfaokaohhchdhaaGreatDoor
