/- How the reckoning compiles: the instructions of an expression, of statements, of a program. No Go in it. -/
import Derived.Test.YtfaokaohhchdhaaGreatDoorPart20
import Derived.Test.YtfaokaohhchdhaaGreatDoorPart0
import Derived.Test.YtfaokaohhchdhaaGreatDoorPart21
import Derived.Lib.OwnKind
namespace Go.Proofs.YtfaokaohhchdhaaGreatDoor
def lastI (k z : Int) (tn cnt : Nat) : List Int :=
 if k=1 then [1,(tn : Int),z,0]
 else if k=2 then [2,(tn : Int),z,0]
 else if k=3 then [3,(tn : Int),(tn : Int),(tn : Int) + 1,z]
 else if k=4 then [4,(tn : Int),(tn : Int),z]
 else if k=5 then [5,(tn : Int),z,0]
 else [7,(tn : Int),z,0] ++ (List.range cnt).map (fun (j : Nat) => (tn : Int) + (j : Int))
def seqM (f : Nat→Nat→Option (List (List Int)×Nat)) (a tn : Nat) : Nat→Option (List (List Int)×Nat)
 | 0 => some ([],a)
 | c + 1 => (seqM f a tn c).bind fun r => (f r.2 (tn + c)).map fun s => (r.1 ++ s.1,s.2)
def valM (n nf : Nat) (k z : Nat→Int) (par : Nat→Int) : Nat→Nat→Nat→Option (List (List Int)×Nat)
 | 0,_,_ => none
 | fuel + 1,a,tn =>
  if a < n∧1≤k a∧k a≤6∧0≤asksOf (k a) (z a) par∧asksOf (k a) (z a) par≤3∧(k a=6→0≤z a∧z a < nf) then
   (seqM (valM n nf k z par fuel) (a + 1) tn (asksOf (k a) (z a) par).toNat).map fun r => (r.1 ++ [lastI (k a) (z a) tn (asksOf (k a) (z a) par).toNat],r.2)
  else none
def oneM (nf : Nat) (par : Nat→Int) (free : Nat) (sub : Bool→Nat→Option (List (List Int))) (s : Nd) (here : Nat) : Option (List (List Int)) :=
 (if s.ne=0 then some [] else (valM s.ne nf s.ek s.ez par s.ne 0 free).map fun r => r.1).bind fun c =>
  if s.kind=1 then some (c ++ [[2,s.num,(free : Int),0]])
  else if s.kind=2 then (valM s.nf nf s.fk s.fz par s.nf 0 (free + 1)).map fun d => c ++ d.1 ++ [[6,(free : Int),(free : Int) + 1,s.num]]
  else if s.kind=3 then some (c ++ [[9,(free : Int),0,0]])
  else if s.kind=4 then some (c ++ [[10,0,0,0]])
  else if s.kind=5 then some (c ++ [[11,(free : Int),0,0]])
  else if s.kind=8 then some (c ++ [[8,(free : Int),0,0]])
  else if s.kind=6∨s.kind=7 then
   (sub false (here + c.length + 1)).bind fun x => (sub true (here + c.length + 1 + x.length + 1)).map fun y =>
    c ++ [[13,(free : Int),((here + c.length + 1 + x.length + 1 : Nat) : Int),0]] ++ x ++ [[12,0,(if s.kind=7 then ((here : Nat) : Int) else ((here + c.length + 1 + x.length + 1 + y.length : Nat) : Int)),0]] ++ y
  else none
def iterM (g : Nat→Nat→Option (List (List Int))) (at0 : Nat) : Nat→Option (List (List Int))
 | 0 => some []
 | i + 1 => (iterM g at0 i).bind fun out => (g i (at0 + out.length)).map fun c => out ++ c
def codM (nf : Nat) (par : Nat→Int) (free : Nat) : Nat→SL→Nat→Option (List (List Int))
 | 0,T,_ => if T.len=0 then some [] else none
 | d + 1,T,at0 => iterM (fun i here => oneM nf par free (fun b at1 => codM nf par free d (T.sub i b) at1) (T.nd i) here) at0 T.len
def codedM (nf : Nat) (par loc : Nat→Int) (d : Nat) (body : Nat→SL) (j : Nat) : Option (List (List Int)) :=
 (codM nf par (loc j).toNat d (body j) 0).map fun c => c ++ [[1,loc j,0,0],[8,loc j,0,0]]
def pcOf (par : Nat→Int) (L : Nat→List (List Int)) (j : Nat) : Pc:=⟨par j,30,(L j).length,fun k => insOf ((L j).getD k [])⟩
end Go.Proofs.YtfaokaohhchdhaaGreatDoor
namespace Go.Proofs.YtfaokaohhchdhaaGreatDoor
open Go.RowKit Go.Maps
theorem append_insS {ops : Array Oper} {rest : List Oper} {o : Oper} {a : Act} {Q : Exit→Act→World→Prop} (w : World) (hgd : o.guard=none) (s y : Operand)
  (ho : o.op=.call { callee:=.builtin .append,args:=#[s,y],argTypes:=#[36,36] }) (base : Nat) (v : Value) (n0 : Nat) (xs : List Value) (hs : a.eval s=v) (hown : w.ownsRow base 84 5 v n0 xs)
  (ad : Addr) (n c : Nat) (news : List Value) (hy : a.eval y=.slice (some ad) n c) (hln : news.length=n * 5) (hnews : ∀ j u,news[j]?=some u→w.cell? (ad.add j)=some u) (h1 : ∀ u ∈ news,u.oneCell'=true) (hR : n0 + n≤100000) (hbase : base≤w.heap.size)
  (h : ∀ ad' cap w2,w2.ownsRow base 84 5 (.slice ad' (n0 + n) cap) (n0 + n) (xs ++ news)→w.grownBy w2 v.ownBlock→wpList Tryz.prog ops Q rest (a.put o.dst (.slice ad' (n0 + n) cap)) w2) :
  wpList Tryz.prog ops Q (o :: rest) a w:=by
 obtain ⟨i0,hi,hz0,hz1,hz2⟩:=info_parts infoIns
 refine wpList_append_own _ hgd s y 36 ho base 84 i0 (.agg #[.int .i64 0,.int .i64 0,.int .i64 0,.int .i64 0,.slice none 0 0]) 5 56 Tryz.underlying36 hi hz0 hz1 hz2 rfl (by decide) v n0 xs hs hown ad n c news hy hln hnews h1 (by unfold maxLen; omega) (by omega) hbase ?_
 intro v' w2 hr hg _
 obtain ⟨ad',cap,rfl⟩:=own_shape hr
 exact h ad' cap w2 hr hg
theorem flatI_append : ∀ (l m : List (List Int×Value)),flatI (l ++ m)=flatI l ++ flatI m
 | [],m => rfl
 | x :: l,m => by rw [List.cons_append,flatI,flatI_append l m,flatI,List.append_assoc]
theorem CodeRow.news {C : Nat} {w : World} {v : Value} {l : List (List Int×Value)} (h : CodeRow C w v l) (hn : ¬ l.length=0) : ∃ g cap,v=.slice (some ⟨g,0,none⟩) l.length cap∧C≤g∧g < w.heap.size∧∀ j x,(flatI l)[j]?=some x→w.cell? ((⟨g,0,none⟩ : Addr).add j)=some x:=by
 rcases h.1.2 with ⟨_,h0⟩ | ⟨g,cap,cur,rfl,hC,hg,_⟩
 ·exact absurd h0 hn
 ·refine ⟨g,cap,rfl,hC,(Array.getElem?_eq_some_iff.1 hg).1,fun j x hj => ?_⟩
  rw [WideShapes.add_plain,Nat.zero_add]
  have hl:=flatI_len l
  rw [h.1.cellAt j (by have:=(List.getElem?_eq_some_iff.1 hj).1; omega)]
  exact hj
theorem flatI_one {l : List (List Int×Value)} (h : ∀ x ∈ l,Value.oneCell' x.2=true) : ∀ u ∈ flatI l,u.oneCell'=true:=by
 induction l with
 | nil => intro u hu; cases hu
 | cons x l ih =>
  intro u hu
  rw [flatI,List.mem_append] at hu
  rcases hu with hu | hu
  ·simp only [List.mem_cons,List.not_mem_nil,or_false] at hu
   rcases hu with rfl | rfl | rfl | rfl | rfl
   ·rfl
   ·rfl
   ·rfl
   ·rfl
   ·exact h x (by simp)
  ·exact ih (fun y hy => h y (by simp [hy])) u hu
theorem CodeRow.one {C : Nat} {w : World} {v : Value} {l : List (List Int×Value)} (h : CodeRow C w v l) : ∀ u ∈ flatI l,u.oneCell'=true :=
 flatI_one fun x hx => by
  obtain ⟨a,cap,e,_⟩:=h.2 x hx
  rw [e]; rfl
def ArgB (v : Value) (k : Nat) : Prop:=∃ o n c,v=.slice (some ⟨k,o,none⟩) n c
theorem ArgsAt.but {w w' : World} {v : Value} {n : Nat} {z : Nat→Int} (h : ArgsAt w v n z) (hk : ∀ k,ArgB v k→w'.heap[k]?=w.heap[k]?) : ArgsAt w' v n z:=by
 obtain ⟨a,cap,rfl,hn,h | ⟨g,o,cur,rfl,hg,hc⟩⟩:=h
 ·exact ⟨a,cap,rfl,hn,Or.inl h⟩
 ·exact ⟨_,cap,rfl,hn,Or.inr ⟨g,o,cur,rfl,(hk g ⟨o,n,cap,rfl⟩).trans hg,hc⟩⟩
def InsRow (B : Nat) (no : Nat→Prop) (w : World) (v : Value) (L : List (List Int)) : Prop :=
 ∃ items,CodeRow B w v items∧items.map (·.1)=L∧∀ x ∈ items,∀ k,ArgB x.2 k→B≤k∧k < w.heap.size∧¬ no k
theorem InsRow.nil (B : Nat) (no : Nat→Prop) (w : World) : InsRow B no w (.slice none 0 0) []:=⟨[],CodeRow.nil B w,rfl,fun x hx => by cases hx⟩
theorem InsRow.stay {B : Nat} {no : Nat→Prop} {w w' : World} {v : Value} {L : List (List Int)} (h : InsRow B no w v L) (hs : w.heap.size≤w'.heap.size) (hv : ∀ k,v.ownBlock=some k→w'.heap[k]?=w.heap[k]?) (hk : ∀ k,B≤k→k < w.heap.size→¬ no k→¬ v.ownBlock=some k→w'.heap[k]?=w.heap[k]?) : InsRow B no w' v L:=by
 obtain ⟨items,h1,h2,h3⟩:=h
 refine ⟨items,⟨?_,fun x hx => (h1.2 x hx).but fun k hka => ?_⟩,h2,fun x hx k hka => ?_⟩
 ·exact ⟨h1.1.1,by
   rcases h1.1.2 with hn | ⟨g,cap,cur,rfl,hg,hh,r⟩
   ·exact Or.inl hn
   ·exact Or.inr ⟨g,cap,cur,rfl,hg,by rw [hv g rfl]; exact hh,r⟩⟩
 ·obtain ⟨a1,a2,a3⟩:=h3 x hx k hka
  by_cases e : v.ownBlock=some k
  ·exact hv k e
  ·exact hk k a1 a2 a3 e
 ·obtain ⟨a1,a2,a3⟩:=h3 x hx k hka
  exact ⟨a1,by omega,a3⟩
theorem InsRow.below {B : Nat} {no : Nat→Prop} {w w' : World} {v : Value} {L : List (List Int)} (h : InsRow B no w v L) (hb : Below w.heap.size w w') : InsRow B no w' v L :=
 h.stay hb.size (fun k hk => hb.block k (by
  obtain ⟨items,h1,_⟩:=h
  exact (h1.1.lt k hk).2)) fun k _ hk _ _ => hb.block k hk
theorem InsRow.lower {B B' : Nat} {no no' : Nat→Prop} {w : World} {v : Value} {L : List (List Int)} (h : InsRow B no w v L) (hb : B'≤B) (hn : ∀ k,B≤k→no' k→no k) : InsRow B' no' w v L:=by
 obtain ⟨items,h1,h2,h3⟩:=h
 refine ⟨items,⟨⟨h1.1.1,?_⟩,h1.2⟩,h2,fun x hx k hk => ?_⟩
 ·rcases h1.1.2 with e | ⟨g,cap,cur,e,hg,r⟩
  ·exact Or.inl e
  ·exact Or.inr ⟨g,cap,cur,e,by omega,r⟩
 ·obtain ⟨a1,a2,a3⟩:=h3 x hx k hk
  exact ⟨by omega,a2,fun e => a3 (hn k a1 e)⟩
theorem InsRow.shape {B : Nat} {no : Nat→Prop} {w : World} {v : Value} {L : List (List Int)} (h : InsRow B no w v L) : ∃ a c,v=.slice a L.length c:=by
 obtain ⟨items,h1,h2,h3⟩:=h
 obtain ⟨a,c,e⟩:=own_shape h1.1
 exact ⟨a,c,by rw [e,← h2,List.length_map]⟩
theorem insJoin {B B2 : Nat} {no : Nat→Prop} {w w2 : World} {v u v' : Value} {L M : List (List Int)} (hB : B≤B2) {items items2 : List (List Int×Value)} (hi : CodeRow B w v items∧items.map (·.1)=L∧∀ x ∈ items,∀ k,ArgB x.2 k→B≤k∧k < w.heap.size∧¬ no k)
  (hi2 : CodeRow B2 w u items2∧items2.map (·.1)=M∧∀ x ∈ items2,∀ k,ArgB x.2 k→B2≤k∧k < w.heap.size∧¬ no k) (hown : w2.ownsRow B 84 5 v' (L.length + M.length) (flatI items ++ flatI items2)) (hgr : w.grownBy w2 v.ownBlock) : InsRow B no w2 v' (L ++ M):=by
 obtain ⟨c1,e1,a1⟩:=hi
 obtain ⟨c2,e2,a2⟩:=hi2
 have hne : ∀ x k,ArgsAt w x (0 + 0) (fun _ => 0)∨True→ArgB x k→(∃ cur,w.heap[k]?=some (.cells cur 3 (0,0)))→¬ v.ownBlock=some k:=fun x k _ _ hc e => by
  obtain ⟨c,fz,q⟩:=Lib.ownsRow_kind c1.1 k e
  obtain ⟨cur,hc⟩:=hc
  rw [hc] at q
  injection q with q; injection q with _ q _; exact absurd q (by decide)
 have keep : ∀ (x : Value) (n : Nat) (z : Nat→Int),ArgsAt w x n z→ArgsAt w2 x n z:=fun x n z hx => by
  obtain ⟨a,cap,rfl,hn,h0 | ⟨g,o,cur,rfl,hg,hc⟩⟩:=hx
  ·exact ⟨a,cap,rfl,hn,Or.inl h0⟩
  ·refine ⟨_,cap,rfl,hn,Or.inr ⟨g,o,cur,rfl,?_,hc⟩⟩
   rw [hgr.block g (Array.getElem?_eq_some_iff.1 hg).1 (fun e => hne _ g (Or.inr trivial) ⟨o,n,cap,rfl⟩ ⟨cur,hg⟩ e.symm)]
   exact hg
 refine ⟨items ++ items2,⟨?_,fun x hx => ?_⟩,by rw [List.map_append,e1,e2],fun x hx k hk => ?_⟩
 ·have hl1 : items.length=L.length:=by rw [← e1,List.length_map]
  have hl2 : items2.length=M.length:=by rw [← e2,List.length_map]
  rw [List.length_append,flatI_append,hl1,hl2]
  exact hown
 ·rcases List.mem_append.1 hx with hx | hx
  ·exact keep _ _ _ (c1.2 x hx)
  ·exact keep _ _ _ (c2.2 x hx)
 ·rcases List.mem_append.1 hx with hx | hx
  ·obtain ⟨b1,b2,b3⟩:=a1 x hx k hk
   exact ⟨b1,Nat.lt_of_lt_of_le b2 hgr.size,b3⟩
  ·obtain ⟨b1,b2,b3⟩:=a2 x hx k hk
   exact ⟨by omega,Nat.lt_of_lt_of_le b2 hgr.size,b3⟩
theorem append_insR {ops : Array Oper} {rest : List Oper} {o : Oper} {a : Act} {Q : Exit→Act→World→Prop} (w : World) (hgd : o.guard=none) (s y : Operand)
  (ho : o.op=.call { callee:=.builtin .append,args:=#[s,y],argTypes:=#[36,36] }) (B B2 : Nat) (no : Nat→Prop) (v u : Value) (L M : List (List Int)) (hs : a.eval s=v) (hy : a.eval y=u) (hv : InsRow B no w v L) (hu : InsRow B2 no w u M) (hBB : B≤B2) (hM : ¬ M.length=0) (hl : L.length + M.length≤100000) (hB : B≤w.heap.size)
  (h : ∀ ad cap w2,Hid (InsRow B no w2 (.slice ad (L.length + M.length) cap) (L ++ M))→Hid (w.grownBy w2 v.ownBlock)→wpList Tryz.prog ops Q rest (a.put o.dst (.slice ad (L.length + M.length) cap)) w2) :
  wpList Tryz.prog ops Q (o :: rest) a w:=by
 obtain ⟨items,c1,e1,a1⟩:=id hv
 obtain ⟨items2,c2,e2,a2⟩:=id hu
 have hl1 : items.length=L.length:=by rw [← e1,List.length_map]
 have hl2 : items2.length=M.length:=by rw [← e2,List.length_map]
 obtain ⟨g,cap,rfl,hg1,hg2,hnews⟩:=c2.news (by omega)
 rw [hl2] at hy
 have hown:=c1.1
 rw [hl1] at hown
 refine append_insS w hgd s y ho B v L.length (flatI items) hs hown ⟨g,0,none⟩ M.length cap (flatI items2) hy (by rw [flatI_len,hl2]) hnews c2.one hl hB ?_
 intro ad' cp w2 h1 h2
 exact h ad' cp w2 (insJoin hBB ⟨c1,e1,a1⟩ ⟨c2,e2,a2⟩ h1 h2) h2
end Go.Proofs.YtfaokaohhchdhaaGreatDoor
