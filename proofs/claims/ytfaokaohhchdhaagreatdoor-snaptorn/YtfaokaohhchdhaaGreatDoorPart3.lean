/- Rows of values of the call's own; slices.Clone of a row of values. -/
import Derived.Test.YtfaokaohhchdhaaGreatDoorPart2
import Derived.Lib.SliceRun
import Derived.Deep.Slices
import Derived.Test.YtfaokaohhchdhaaGreatDoorPart0
namespace Go.Proofs.YtfaokaohhchdhaaGreatDoor
open Go.RowKit Go.Maps
def flatV : List (Int×Int)→List Value
 | [] => []
 | p :: L => .int .i64 p.1 :: .int .i64 p.2 :: flatV L
theorem flatV_len : ∀ L : List (Int×Int),(flatV L).length=L.length * 2
 | [] => rfl
 | p :: L => by simp only [flatV,List.length_cons,flatV_len L]; omega
theorem flatV_append : ∀ (L M : List (Int×Int)),flatV (L ++ M)=flatV L ++ flatV M
 | [],M => rfl
 | p :: L,M => by simp only [List.cons_append,flatV,flatV_append L M]
theorem flatV_one : ∀ (L : List (Int×Int)),∀ u ∈ flatV L,u.oneCell'=true
 | [],u,h => absurd h List.not_mem_nil
 | p :: L,u,h => by
  simp only [flatV,List.mem_cons] at h
  rcases h with rfl | rfl | h
  ·rfl
  ·rfl
  ·exact flatV_one L u h
theorem flatV_at : ∀ (L : List (Int×Int)) (i : Nat),i < L.length→(flatV L)[i * 2]?=some (.int .i64 (fstAt L i))∧(flatV L)[i * 2 + 1]?=some (.int .i64 (sndAt L i))
 | [],i,h => absurd h (Nat.not_lt_zero _)
 | p :: L,0,_ => ⟨rfl,rfl⟩
 | p :: L,i + 1,h => by
  have:=flatV_at L i (by simpa using h)
  have e : (i + 1) * 2=i * 2 + 1 + 1:=by omega
  simp only [e,flatV,List.getElem?_cons_succ]
  exact this
theorem fstAt_row {n : Nat} {k z : Nat→Int} {i : Nat} (h : i < n) : fstAt (rowL n k z) i=k i:=by
 simp [fstAt,rowL,List.getD,h]
theorem sndAt_row {n : Nat} {k z : Nat→Int} {i : Nat} (h : i < n) : sndAt (rowL n k z) i=z i:=by
 simp [sndAt,rowL,List.getD,h]
theorem row_news {w : World} {b o n : Nat} {k z : Nat→Int} (g : ∀ i,i < n→w.cell? ⟨b,o + i * 2,none⟩=some (.int .i64 (k i))∧w.cell? ⟨b,o + i * 2 + 1,none⟩=some (.int .i64 (z i))) :
  ∀ j u,(flatV (rowL n k z))[j]?=some u→w.cell? ((⟨b,o,none⟩ : Addr).add j)=some u:=by
 intro j u hj
 have hl : j < n * 2:=by
  have:=(List.getElem?_eq_some_iff.1 hj).1
  rw [flatV_len,rowL_len] at this
  exact this
 rw [WideShapes.add_plain]
 have hi : j / 2 < n:=by omega
 obtain ⟨f0,f1⟩:=flatV_at (rowL n k z) (j / 2) (by rw [rowL_len]; exact hi)
 rw [fstAt_row hi] at f0
 rw [sndAt_row hi] at f1
 obtain ⟨g0,g1⟩:=g (j / 2) hi
 rcases Nat.mod_two_eq_zero_or_one j with e | e
 ·have ej : j=j / 2 * 2:=by omega
  rw [← ej] at f0 g0
  rw [f0] at hj
  rw [g0]; exact hj
 ·have ej : j=j / 2 * 2 + 1:=by omega
  rw [← ej] at f1
  rw [Nat.add_assoc,← ej] at g1
  rw [f1] at hj
  rw [g1]; exact hj
theorem infoVal : (Tryz.prog.info? 92).map (fun i => (i.zero,i.size,i.bytes))=some (some (.agg #[.int .i64 0,.int .i64 0]),2,16):=by kernel_rfl
theorem own_vals {w : World} {base : Nat} {v : Value} {L : List (Int×Int)} (h : w.ownsRow base 92 2 v L.length (flatV L)) (hL : L.length≤100000) : ValsAt w v L.length (fstAt L) (sndAt L):=by
 rcases h.2 with ⟨rfl,h0⟩ | ⟨g,cap,cur,rfl,r⟩
 ·rw [h0]; exact ⟨none,0,rfl,by omega,Or.inl rfl⟩
 ·refine ⟨_,cap,rfl,by omega,Or.inr ⟨g,0,rfl,(h.lt g rfl).2,fun i hi => ?_⟩⟩
  obtain ⟨f0,f1⟩:=flatV_at L i hi
  rw [Nat.zero_add,h.cellAt (i * 2) (by omega),h.cellAt (i * 2 + 1) (by omega)]
  exact ⟨f0,f1⟩
theorem append_vals {ops : Array Oper} {rest : List Oper} {o : Oper} {a : Act} {Q : Exit→Act→World→Prop} (w : World) (hgd : o.guard=none) (s y : Operand)
  (ho : o.op=.call { callee:=.builtin .append,args:=#[s,y],argTypes:=#[35,35] }) (base : Nat) (v : Value) (L : List (Int×Int)) (hs : a.eval s=v) (hown : w.ownsRow base 92 2 v L.length (flatV L))
  (ad : Addr) (n c : Nat) (k z : Nat→Int) (hy : a.eval y=.slice (some ad) n c) (hnews : ∀ j u,(flatV (rowL n k z))[j]?=some u→w.cell? (ad.add j)=some u) (hR : L.length + n≤100000) (hbase : base≤w.heap.size)
  (h : ∀ ad' cap w2,w2.ownsRow base 92 2 (.slice ad' (L.length + n) cap) (L ++ rowL n k z).length (flatV (L ++ rowL n k z))→w.grownBy w2 v.ownBlock→wpList Tryz.prog ops Q rest (a.put o.dst (.slice ad' (L.length + n) cap)) w2) :
  wpList Tryz.prog ops Q (o :: rest) a w:=by
 obtain ⟨i0,hi,hz0,hz1,hz2⟩:=info_parts infoVal
 refine wpList_append_own _ hgd s y 35 ho base 92 i0 (.agg #[.int .i64 0,.int .i64 0]) 2 16 Tryz.underlying35 hi hz0 hz1 hz2 rfl (by decide) v _ _ hs hown ad n c (flatV (rowL n k z)) hy (by rw [flatV_len,rowL_len]) hnews (flatV_one _) (by unfold maxLen; omega) (by omega) hbase ?_
 intro v' w2 h1 h2 _
 obtain ⟨ad',cap,rfl⟩:=own_shape h1
 refine h ad' cap w2 ?_ h2
 rw [List.length_append,rowL_len,flatV_append]
 exact h1
set_option maxHeartbeats 400000 in
theorem cloneV (v : Value) (n : Nat) (k z : Nat→Int) (w : World) (h : ValsAt w v n k z) (hn : n≤1000) :
  Calls Tryz.prog 99 #[v] w fun e w' => ∃ ad cap,e=.returned (.slice ad n cap)∧w'.ownsRow w.heap.size 92 2 (.slice ad n cap) (rowL n k z).length (flatV (rowL n k z))∧Below w.heap.size w w':=by
 obtain ⟨a,cap,rfl,_,h⟩:=h
 rcases a with _ | ad
 ·obtain rfl : n=0:=by
   rcases h with h | ⟨b,o,e,_⟩
   ·exact h
   ·cases e
  have hq:=fun (w : World) => Lib.run_eql_slice_nil (P:=Tryz.prog) w 35 92 none 0 cap 0 0 Tryz.underlying35
  go_enter Tryz.func99,Tryz.ntmps99
  go_wp2_with fail
  go_ret
  exact ⟨none,0,rfl,World.ownsRow_nil _ _ _ _,Below.refl _ _⟩
 ·have hq:=fun (w : World) => Lib.run_eql_slice_nil (P:=Tryz.prog) w 35 92 (some ad) n cap 0 0 Tryz.underlying35
  have HN : Hid (∀ o : Obj,∀ j u,(flatV (rowL n k z))[j]?=some u→(w.alloc o).cell? (ad.add j)=some u):=by
   intro o j u hj
   rcases h with rfl | ⟨b,o',e,hlt,g⟩
   ·cases hj
   ·cases e
    have:=row_news g j u hj
    rw [WideShapes.add_plain] at this ⊢
    exact ((below_alloc w o).cell hlt).trans this
  clear h
  go_enter Tryz.func99,Tryz.ntmps99
  go_wp2_with (at_builtin; refine append_vals _ rfl _ _ rfl w.heap.size _ [] rfl (World.ownsRow_lit w #[] 0 (Nat.le_refl _) (by decide) rfl) ad n cap k z rfl (HN.out _) (by simp; omega) (by simp) ?_; intro ad' cp w2 hown hgrow)
  have hg : (w.alloc (.cells #[] 92)).grownBy w2 (some w.heap.size):=hgrow
  go_ret
  refine ⟨ad',cp,rfl,?_,(below_alloc w _).grown hg (by simp) (fun k hk => by cases hk; exact Nat.le_refl _)⟩
  simpa using hown
theorem infoLVal : (Tryz.prog.info? 35).map (fun i => (i.zero,i.size,i.bytes))=some (some (.slice none 0 0),1,24):=by kernel_rfl
theorem own_cells {w : World} {base : Nat} {v : Value} {us : List Value} {m : Nat→Nat} {K Z : Nat→Nat→Int} (h : w.ownsRow base 35 1 v us.length us) (hu : ∀ i,i < us.length→∃ u,us[i]?=some u∧ValsAt w u (m i) (K i) (Z i))
  (hL : us.length≤100000) : CellsAt w v us.length m K Z:=by
 rcases h.2 with ⟨rfl,h0⟩ | ⟨g,cap,cur,rfl,r⟩
 ·rw [h0]; exact ⟨none,0,rfl,by omega,Or.inl rfl⟩
 ·refine ⟨_,cap,rfl,by omega,Or.inr ⟨g,0,rfl,(h.lt g rfl).2,fun i hi => ?_⟩⟩
  obtain ⟨u,hu1,hu2⟩:=hu i hi
  exact ⟨u,by rw [Nat.zero_add,h.cellAt i (by omega)]; exact hu1,hu2⟩
theorem vals_one {w : World} {u : Value} {n : Nat} {k z : Nat→Int} (h : ValsAt w u n k z) : u.oneCell'=true:=by
 obtain ⟨a,cap,rfl,_⟩:=h
 rfl
theorem append_cells {ops : Array Oper} {rest : List Oper} {o : Oper} {a : Act} {Q : Exit→Act→World→Prop} (w : World) (hgd : o.guard=none) (s y : Operand)
  (ho : o.op=.call { callee:=.builtin .append,args:=#[s,y],argTypes:=#[24,24] }) (base : Nat) (v : Value) (us : List Value) (hs : a.eval s=v) (hown : w.ownsRow base 35 1 v us.length us)
  (ad : Addr) (c : Nat) (news : List Value) (hy : a.eval y=.slice (some ad) news.length c) (hnews : ∀ j u,news[j]?=some u→w.cell? (ad.add j)=some u) (h1 : ∀ u ∈ news,u.oneCell'=true) (hR : us.length + news.length≤100000) (hbase : base≤w.heap.size)
  (h : ∀ ad' cap w2,w2.ownsRow base 35 1 (.slice ad' (us.length + news.length) cap) (us ++ news).length (us ++ news)→w.grownBy w2 v.ownBlock→wpList Tryz.prog ops Q rest (a.put o.dst (.slice ad' (us.length + news.length) cap)) w2) :
  wpList Tryz.prog ops Q (o :: rest) a w:=by
 obtain ⟨i0,hi,hz0,hz1,hz2⟩:=info_parts infoLVal
 refine wpList_append_own _ hgd s y 24 ho base 35 i0 (.slice none 0 0) 1 24 Tryz.underlying24 hi hz0 hz1 hz2 rfl (by decide) v _ _ hs hown ad _ c news hy (by omega) hnews h1 (by unfold maxLen; omega) (by omega) hbase ?_
 intro v' w2 hr hg _
 obtain ⟨ad',cap,rfl⟩:=own_shape hr
 refine h ad' cap w2 ?_ hg
 rw [List.length_append]
 exact hr
end Go.Proofs.YtfaokaohhchdhaaGreatDoor
namespace Go.Proofs.YtfaokaohhchdhaaGreatDoor
structure In where
 op : Int
 a : Int
 b : Int
 c : Int
 n : Nat
 z : Nat→Int
def fromB (n lo hi : Int) : Bool:=decide (lo≤n∧n≤hi)
def regsB (i : In) (regs : Int) : Bool :=
 if i.op=10∨i.op=12 then true
 else if i.op=3 then fromB i.a 0 (regs - 1) && (fromB i.b 0 (regs - 1) && fromB i.c 0 (regs - 1))
 else if i.op=2∨i.op=4∨i.op=6 then fromB i.a 0 (regs - 1) && fromB i.b 0 (regs - 1)
 else fromB i.a 0 (regs - 1)
def restB (i : In) (code : Int) : Bool :=
 if i.op=1 then fromB i.b (-1000000000) 1000000000
 else if i.op=5 then fromB i.b 1 4
 else if i.op=4∨i.op=6 then fromB i.c 0 3
 else if i.op=3 then decide (i.n=1) && fromB (i.z 0) 1 5
 else if i.op=12∨i.op=13 then fromB i.b 0 (code - 1)
 else true
def bareB (i : In) : Bool :=
 if i.op=3 then true
 else if i.op=7 then decide (i.c=0)
 else if i.op=4∨i.op=6 then decide (i.n=0)
 else if i.op=1∨i.op=5∨i.op=2∨i.op=13 then decide (i.c=0) && decide (i.n=0)
 else if i.op=8∨i.op=9∨i.op=11 then decide (i.b=0) && (decide (i.c=0) && decide (i.n=0))
 else if i.op=12 then decide (i.a=0) && (decide (i.c=0) && decide (i.n=0))
 else decide (i.a=0) && (decide (i.b=0) && (decide (i.c=0) && decide (i.n=0)))
def argsB (i : In) (regs : Int) : Bool:=decide (∀ k,k < i.n→0≤i.z k∧i.z k≤regs - 1)
def insErr (np : Nat) (par : Nat→Int) (regs : Int) (code : Nat) (i : In) : Int :=
 if fromB i.op 1 13=false then 4
 else if regsB i regs=false then 3
 else if i.op=7∧fromB i.b 0 ((np : Int) - 1)=false then 5
 else if restB i code=false then 3
 else if bareB i=false∨(i.op=7∧¬ (i.n : Int)=par i.b.toNat) then 4
 else if i.op=7∧argsB i regs=false then 3
 else 0
structure Pc where
 params : Int
 regs : Int
 n : Nat
 ins : Nat→In
def pcErr (j : Nat) (p : Pc) : Int :=
 if fromB p.params 0 3=false∨fromB p.regs (max 1 p.params) 40=false∨(j=0∧0 < p.params) then 3
 else if p.n < 1∨2000 < p.n then 2 else 0
def bodyCErr (np : Nat) (par : Nat→Int) (p : Pc) : Int :=
 if firstErr p.n (fun k => insErr np par p.regs p.n (p.ins k))=0 then (if (p.ins (p.n - 1)).op=8∨(p.ins (p.n - 1)).op=12 then 0 else 4)
 else firstErr p.n (fun k => insErr np par p.regs p.n (p.ins k))
def codeErr (np : Nat) (P : Nat→Pc) : Int :=
 if np < 1∨4 < np then 2
 else if firstErr np (fun j => pcErr j (P j))=0 then firstErr np (fun j => bodyCErr np (fun k => (P k).params) (P j))
 else firstErr np (fun j => pcErr j (P j))
structure Fm where
 proc : Int
 pos : Int
 regs : List (Int×Int)
 to : Int
structure Sta where
 fs : List Fm
 cs : List (List (Int×Int))
 st : Int
 wh : Int
def noFm : Fm:=⟨0,0,[],0⟩
def fmAt (fs : List Fm) (i : Nat) : Fm:=fs.getD i noFm
def cLen (cs : List (List (Int×Int))) (i : Nat) : Nat:=(cs.getD i []).length
def cK (cs : List (List (Int×Int))) (i j : Nat) : Int:=fstAt (cs.getD i []) j
def cZ (cs : List (List (Int×Int))) (i j : Nat) : Int:=sndAt (cs.getD i []) j
def ahead (fs : List Fm) (k : Nat) : Nat:=if k=0 then 1 else (fmAt fs (k - 1)).regs.length
def frErr (np : Nat) (P : Nat→Pc) (h nc : Nat) (f : Fm) : Int :=
 if f.proc < 0∨(np : Int)≤f.proc then 5
 else if f.pos < 0∨((P f.proc.toNat).n : Int)≤f.pos∨f.to < 0∨(h : Int)≤f.to then 3
 else if ¬ (f.regs.length : Int)=(P f.proc.toNat).regs then 4
 else rowErr f.regs.length (fstAt f.regs) (sndAt f.regs) nc
def framesErr (np : Nat) (P : Nat→Pc) (nc : Nat) (fs : List Fm) : Int:=firstErr fs.length fun k => frErr np P (ahead fs k) nc (fmAt fs k)
def cellsErr (cs : List (List (Int×Int))) : Int:=allErr cs.length (cLen cs) (cK cs) (cZ cs)
def staErr (np : Nat) (P : Nat→Pc) (S : Sta) : Int :=
 if S.st < 0∨3 < S.st∨S.wh < -1000000000∨1000000000 < S.wh then 3
 else if (¬ S.st=3∧¬ S.wh=0)∨(S.st=1∧¬ S.fs.length=0)∨(¬ S.st=1∧S.fs.length=0) then 4
 else if 10 < S.fs.length then 2
 else if cellsErr S.cs=0 then framesErr np P S.cs.length S.fs else cellsErr S.cs
def vmErr (np : Nat) (P : Nat→Pc) (S : Sta) : Int:=if codeErr np P=0 then staErr np P S else codeErr np P
def regsOf (fs : List Fm) : List (Int×Int):=(fs.map Fm.regs).flatten
def reachedS (S : Sta) : List Int:=reached S.cs.length (cLen S.cs) (cK S.cs) (cZ S.cs) (regsOf S.fs).length (fstAt (regsOf S.fs)) (sndAt (regsOf S.fs))
def renum (R : List Int) (v : Int×Int) : Int×Int:=if v.1=2 then (2,(R.idxOf v.2 : Int)) else v
def renumF (R : List Int) (f : Fm) : Fm:=⟨f.proc,f.pos,f.regs.map (renum R),f.to⟩
def sweptS (S : Sta) : Sta:=⟨S.fs.map (renumF (reachedS S)),(reachedS S).map fun n => (S.cs.getD n.toNat []).map (renum (reachedS S)),S.st,S.wh⟩
def regAt (L : List (Int×Int)) (a : Int) : Int×Int:=L.getD a.toNat (0,0)
structure Rn where
 s : Sta
 said : List Int
 paused : Bool
def rowOK (nc : Nat) (L : List (Int×Int)) : Prop:=∀ v,v ∈ L→chk v.1 v.2 nc=0
theorem chk_any {k n c c' : Int} (h : chk k n c=0) (hk : ¬ k=2) : chk k n c'=0:=by
 unfold chk at h ⊢
 repeat' split at h
 all_goals simp_all
theorem chk_at {n c : Int} (h : 0≤n∧n < c) : chk 2 n c=0:=by
 unfold chk; rw [if_neg (by decide),if_neg (by decide),if_pos rfl,if_neg (by omega)]
theorem rowErr_zero {nc : Nat} {L : List (Int×Int)} : rowErr L.length (fstAt L) (sndAt L) nc=0 ↔ rowOK nc L:=by
 constructor
 ·intro h v hv
  obtain ⟨i,hi,rfl⟩:=at_pair hv
  exact firstErr_is_zero h i hi
 ·intro h
  exact firstErr_zero fun i hi => h _ (pair_at hi)
theorem getD_mem {α : Type} {L : List α} {i : Nat} {d : α} (h : i < L.length) : L.getD i d ∈ L:=by
 rw [List.getD_eq_getElem?_getD,List.getElem?_eq_getElem h]; exact List.getElem_mem h
theorem getD_none {α : Type} {L : List α} {i : Nat} {d : α} (h : L.length≤i) : L.getD i d=d:=by
 rw [List.getD_eq_getElem?_getD,List.getElem?_eq_none h]; rfl
theorem mem_getD' {α : Type} {L : List α} {x d : α} (h : x ∈ L) : ∃ i,i < L.length∧L.getD i d=x:=by
 obtain ⟨i,hi,e⟩:=List.mem_iff_getElem.1 h
 exact ⟨i,hi,by rw [List.getD_eq_getElem?_getD,List.getElem?_eq_getElem hi]; exact e⟩
theorem getD_set {α : Type} {L : List α} {i k : Nat} {x d : α} (h : i < L.length) : (L.set i x).getD k d=if k=i then x else L.getD k d:=by
 rw [List.getD_eq_getElem?_getD,List.getElem?_set]
 by_cases e : i=k
 ·subst e; simp [h]
 ·rw [if_neg e,if_neg (fun h => e h.symm),List.getD_eq_getElem?_getD]
theorem rowOK.at {nc : Nat} {L : List (Int×Int)} (h : rowOK nc L) (a : Int) : chk (regAt L a).1 (regAt L a).2 nc=0:=by
 unfold regAt
 by_cases e : a.toNat < L.length
 ·exact h _ (getD_mem e)
 ·rw [getD_none (by omega)]; rfl
structure FrOK (np : Nat) (P : Nat→Pc) (h nc : Nat) (f : Fm) : Prop where
 p0 : 0≤f.proc
 p1 : f.proc < np
 a0 : 0≤f.pos
 a1 : f.pos < (P f.proc.toNat).n
 t0 : 0≤f.to
 t1 : f.to < h
 len : (f.regs.length : Int)=(P f.proc.toNat).regs
 vals : rowOK nc f.regs
theorem frErr_zero {np : Nat} {P : Nat→Pc} {h nc : Nat} {f : Fm} : frErr np P h nc f=0 ↔ FrOK np P h nc f:=by
 constructor
 ·intro e
  unfold frErr at e
  by_cases h1 : f.proc < 0∨(np : Int)≤f.proc
  ·rw [if_pos h1] at e; cases e
  rw [if_neg h1] at e
  by_cases h2 : f.pos < 0∨((P f.proc.toNat).n : Int)≤f.pos∨f.to < 0∨(h : Int)≤f.to
  ·rw [if_pos h2] at e; cases e
  rw [if_neg h2] at e
  by_cases h3 : ¬ (f.regs.length : Int)=(P f.proc.toNat).regs
  ·rw [if_pos h3] at e; cases e
  rw [if_neg h3] at e
  exact ⟨by omega,by omega,by omega,by omega,by omega,by omega,by omega,rowErr_zero.1 e⟩
 ·intro e
  obtain ⟨p0,p1,a0,a1,t0,t1,hl,hv⟩:=e
  unfold frErr
  rw [if_neg (by omega),if_neg (by omega),if_neg (by omega)]
  exact rowErr_zero.2 hv
structure CsOK (nc : Nat) (cs : List (List (Int×Int))) : Prop where
 lo : ∀ c,c ∈ cs→1≤c.length
 hi : ∀ c,c ∈ cs→c.length≤4
 vals : ∀ c,c ∈ cs→rowOK nc c
theorem cellsErr_zero {cs : List (List (Int×Int))} : cellsErr cs=0 ↔ cs.length≤24∧CsOK cs.length cs:=by
 unfold cellsErr
 rw [allErr_zero]
 constructor
 ·rintro ⟨h,k⟩
  refine ⟨h,⟨fun c hc => ?_,fun c hc => ?_,fun c hc v hv => ?_⟩⟩ <;> obtain ⟨i,hi,e⟩:=mem_getD' (d:=[]) hc
  ·have:=(k i hi).1; unfold cLen at this; rwa [e] at this
  ·have:=(k i hi).2.1; unfold cLen at this; rwa [e] at this
  ·have:=(k i hi).2.2; unfold cLen cK cZ at this; rw [e] at this
   obtain ⟨j,hj,rfl⟩:=at_pair hv
   exact this j hj
 ·rintro ⟨h,k⟩
  refine ⟨h,fun i hi => ?_⟩
  have hm:=getD_mem (d:=[]) hi
  exact ⟨k.lo _ hm,k.hi _ hm,fun j hj => k.vals _ hm _ (pair_at hj)⟩
structure StaOK (np : Nat) (P : Nat→Pc) (S : Sta) : Prop where
 s0 : 0≤S.st
 s1 : S.st≤3
 w0 : -1000000000≤S.wh
 w1 : S.wh≤1000000000
 wz : ¬ S.st=3→S.wh=0
 fin : S.st=1→S.fs.length=0
 unfin : ¬ S.st=1→¬ S.fs.length=0
 few : S.fs.length≤10
 cn : S.cs.length≤24
 cells : CsOK S.cs.length S.cs
 frames : ∀ k,k < S.fs.length→FrOK np P (ahead S.fs k) S.cs.length (fmAt S.fs k)
theorem staErr_zero {np : Nat} {P : Nat→Pc} {S : Sta} : staErr np P S=0 ↔ StaOK np P S:=by
 constructor
 ·intro e
  unfold staErr at e
  by_cases h1 : S.st < 0∨3 < S.st∨S.wh < -1000000000∨1000000000 < S.wh
  ·rw [if_pos h1] at e; cases e
  rw [if_neg h1] at e
  by_cases h2 : (¬ S.st=3∧¬ S.wh=0)∨(S.st=1∧¬ S.fs.length=0)∨(¬ S.st=1∧S.fs.length=0)
  ·rw [if_pos h2] at e; cases e
  rw [if_neg h2] at e
  by_cases h3 : 10 < S.fs.length
  ·rw [if_pos h3] at e; cases e
  rw [if_neg h3] at e
  by_cases h4 : cellsErr S.cs=0
  ·rw [if_pos h4] at e
   obtain ⟨c1,c2⟩:=cellsErr_zero.1 h4
   exact ⟨by omega,by omega,by omega,by omega,by omega,by omega,by omega,by omega,c1,c2,fun k hk => frErr_zero.1 (firstErr_is_zero e k hk)⟩
  ·rw [if_neg h4] at e; exact absurd e h4
 ·intro e
  obtain ⟨s0,s1,w0,w1,wz,fi,un,few,cn,ce,fr⟩:=e
  unfold staErr
  rw [if_neg (by omega),if_neg (by omega),if_neg (by omega),if_pos (cellsErr_zero.2 ⟨cn,ce⟩)]
  exact firstErr_zero fun k hk => frErr_zero.2 (fr k hk)
structure InOK (np : Nat) (par : Nat→Int) (regs : Int) (code : Nat) (i : In) : Prop where
 o0 : 1≤i.op
 o1 : i.op≤13
 ra : ¬ i.op=10→¬ i.op=12→0≤i.a∧i.a < regs
 rb : (i.op=2∨i.op=3∨i.op=4∨i.op=6)→0≤i.b∧i.b < regs
 rc : i.op=3→0≤i.c∧i.c < regs
 num : i.op=1→-1000000000≤i.b∧i.b≤1000000000
 opr : i.op=3→i.n=1∧1≤i.z 0∧i.z 0≤5
 fld : (i.op=4∨i.op=6)→0≤i.c∧i.c≤3
 new : i.op=5→1≤i.b∧i.b≤4
 cal : i.op=7→0≤i.b∧i.b < np∧(i.n : Int)=par i.b.toNat∧∀ k,k < i.n→0≤i.z k∧i.z k < regs
 jmp : (i.op=12∨i.op=13)→0≤i.b∧i.b < code
theorem fromB_iff {n lo hi : Int} : fromB n lo hi=true ↔ lo≤n∧n≤hi:=by unfold fromB; exact decide_eq_true_iff
theorem insErr_right {np : Nat} {par : Nat→Int} {regs : Int} {code : Nat} {i : In} (h : insErr np par regs code i=0) : InOK np par regs code i:=by
 unfold insErr at h
 by_cases h1 : fromB i.op 1 13=false
 ·rw [if_pos h1] at h; cases h
 rw [if_neg h1] at h
 by_cases h2 : regsB i regs=false
 ·rw [if_pos h2] at h; cases h
 rw [if_neg h2] at h
 by_cases h3 : i.op=7∧fromB i.b 0 ((np : Int) - 1)=false
 ·rw [if_pos h3] at h; cases h
 rw [if_neg h3] at h
 by_cases h4 : restB i code=false
 ·rw [if_pos h4] at h; cases h
 rw [if_neg h4] at h
 by_cases h5 : bareB i=false∨(i.op=7∧¬ (i.n : Int)=par i.b.toNat)
 ·rw [if_pos h5] at h; cases h
 rw [if_neg h5] at h
 by_cases h6 : i.op=7∧argsB i regs=false
 ·rw [if_pos h6] at h; cases h
 clear h
 have h1:=fromB_iff.1 (Bool.not_eq_false _ ▸ h1)
 have h2 : regsB i regs=true:=by simpa using h2
 have h4 : restB i code=true:=by simpa using h4
 unfold regsB at h2
 unfold restB at h4
 refine ⟨h1.1,h1.2,fun e1 e2 => ?_,fun e => ?_,fun e => ?_,fun e => ?_,fun e => ?_,fun e => ?_,fun e => ?_,fun e => ?_,fun e => ?_⟩
 ·rw [if_neg (by omega)] at h2
  by_cases e3 : i.op=3
  ·rw [if_pos e3,Bool.and_eq_true,fromB_iff] at h2; omega
  rw [if_neg e3] at h2
  by_cases e4 : i.op=2∨i.op=4∨i.op=6
  ·rw [if_pos e4,Bool.and_eq_true,fromB_iff] at h2; omega
  rw [if_neg e4,fromB_iff] at h2; omega
 ·rw [if_neg (by omega)] at h2
  by_cases e3 : i.op=3
  ·rw [if_pos e3,Bool.and_eq_true,Bool.and_eq_true,fromB_iff,fromB_iff] at h2; omega
  rw [if_neg e3,if_pos (by omega),Bool.and_eq_true,fromB_iff,fromB_iff] at h2; omega
 ·rw [if_neg (by omega),if_pos e,Bool.and_eq_true,Bool.and_eq_true,fromB_iff,fromB_iff,fromB_iff] at h2; omega
 ·rw [if_pos e,fromB_iff] at h4; omega
 ·rw [if_neg (by omega),if_neg (by omega),if_neg (by omega),if_pos e,Bool.and_eq_true,fromB_iff,decide_eq_true_iff] at h4; omega
 ·rw [if_neg (by omega),if_neg (by omega),if_pos e,fromB_iff] at h4; omega
 ·rw [if_neg (by omega),if_pos e,fromB_iff] at h4; omega
 ·have h3 : fromB i.b 0 ((np : Int) - 1)=true:=by simpa [e] using h3
  have h6 : argsB i regs=true:=by simpa [e] using h6
  have h5 : (i.n : Int)=par i.b.toNat:=by
   by_cases e5 : (i.n : Int)=par i.b.toNat
   ·exact e5
   ·exact absurd (Or.inr ⟨e,e5⟩) h5
  rw [fromB_iff] at h3
  unfold argsB at h6
  rw [decide_eq_true_iff] at h6
  exact ⟨by omega,by omega,h5,fun k hk => by have:=h6 k hk; omega⟩
 ·rw [if_neg (by omega),if_neg (by omega),if_neg (by omega),if_neg (by omega),if_pos e,fromB_iff] at h4; omega
structure CodeOK (np : Nat) (P : Nat→Pc) : Prop where
 n0 : 1≤np
 n1 : np≤4
 par0 : ∀ k,k < np→0≤(P k).params
 par1 : ∀ k,k < np→(P k).params≤(P k).regs
 par3 : ∀ k,k < np→(P k).params≤3
 r0 : ∀ k,k < np→1≤(P k).regs
 r1 : ∀ k,k < np→(P k).regs≤40
 c0 : ∀ k,k < np→1≤(P k).n
 c1 : ∀ k,k < np→(P k).n≤2000
 ins : ∀ k,k < np→∀ j,j < (P k).n→InOK np (fun k => (P k).params) (P k).regs (P k).n ((P k).ins j)
theorem codeErr_right {np : Nat} {P : Nat→Pc} (h : codeErr np P=0) : CodeOK np P:=by
 unfold codeErr at h
 by_cases h1 : np < 1∨4 < np
 ·rw [if_pos h1] at h; cases h
 rw [if_neg h1] at h
 by_cases h2 : firstErr np (fun j => pcErr j (P j))=0
 ·rw [if_pos h2] at h
  have hd:=firstErr_is_zero h2
  have hp : ∀ k,k < np→(0≤(P k).params∧(P k).params≤3)∧(max 1 (P k).params≤(P k).regs∧(P k).regs≤40)∧1≤(P k).n∧(P k).n≤2000:=fun k hk => by
   have e:=hd k hk
   unfold pcErr at e
   by_cases e1 : fromB (P k).params 0 3=false∨fromB (P k).regs (max 1 (P k).params) 40=false∨(k=0∧0 < (P k).params)
   ·rw [if_pos e1] at e; cases e
   rw [if_neg e1] at e
   by_cases e2 : (P k).n < 1∨2000 < (P k).n
   ·rw [if_pos e2] at e; cases e
   have f1 : fromB (P k).params 0 3=true:=by
    cases hb : fromB (P k).params 0 3
    ·exact absurd (Or.inl hb) e1
    ·rfl
   have f2 : fromB (P k).regs (max 1 (P k).params) 40=true:=by
    cases hb : fromB (P k).regs (max 1 (P k).params) 40
    ·exact absurd (Or.inr (Or.inl hb)) e1
    ·rfl
   exact ⟨fromB_iff.1 f1,fromB_iff.1 f2,by omega,by omega⟩
  refine ⟨by omega,by omega,fun k hk => (hp k hk).1.1,fun k hk => ?_,fun k hk => (hp k hk).1.2,fun k hk => ?_,fun k hk => (hp k hk).2.1.2,fun k hk => (hp k hk).2.2.1,fun k hk => (hp k hk).2.2.2,fun k hk j hj => ?_⟩
  ·have:=(hp k hk).2.1.1; omega
  ·have:=(hp k hk).2.1.1; omega
  ·have e:=firstErr_is_zero h k hk
   unfold bodyCErr at e
   by_cases e1 : firstErr (P k).n (fun j => insErr np (fun k => (P k).params) (P k).regs (P k).n ((P k).ins j))=0
   ·exact insErr_right (firstErr_is_zero e1 j hj)
   ·rw [if_neg e1] at e; exact absurd e e1
 ·rw [if_neg h2] at h; exact absurd h h2
/-! ### A frame in the place of the last -/
theorem fmAt_set {fs : List Fm} {i k : Nat} {f : Fm} (h : i < fs.length) : fmAt (fs.set i f) k=if k=i then f else fmAt fs k:=getD_set h
section
variable {np : Nat} {P : Nat→Pc} {S : Sta}
/-! ### The sweep -/
theorem mem_regsOf {fs : List Fm} {v : Int×Int} : v ∈ regsOf fs ↔ ∃ f,f ∈ fs∧v ∈ f.regs:=by
 unfold regsOf
 rw [List.mem_flatten]
 constructor
 ·rintro ⟨l,hl,hv⟩
  obtain ⟨f,hf,rfl⟩:=List.mem_map.1 hl
  exact ⟨f,hf,hv⟩
 ·rintro ⟨f,hf,hv⟩
  exact ⟨_,List.mem_map.2 ⟨f,hf,rfl⟩,hv⟩
theorem regsOf_len {fs : List Fm} {m : Nat} (h : ∀ f,f ∈ fs→f.regs.length≤m) : (regsOf fs).length≤fs.length * m:=by
 induction fs with
 | nil => simp [regsOf]
 | cons f r ih =>
  have h1:=h f (by simp)
  have h2:=ih fun g hg => h g (by simp [hg])
  have e : (regsOf (f :: r)).length=f.regs.length + (regsOf r).length:=by simp [regsOf]
  rw [e,List.length_cons,Nat.succ_mul]; omega
theorem StaOK.frame (h : StaOK np P S) {f : Fm} (hf : f ∈ S.fs) : ∃ hd,FrOK np P hd S.cs.length f:=by
 obtain ⟨i,hi,e⟩:=mem_getD' (d:=noFm) hf
 have e1 : fmAt S.fs i=f:=e
 rw [← e1]
 exact ⟨_,h.frames i hi⟩
theorem StaOK.valid (hc : CodeOK np P) (h : StaOK np P S) : Valid S.cs.length (cLen S.cs) (cK S.cs) (cZ S.cs) (regsOf S.fs).length (fstAt (regsOf S.fs)) (sndAt (regsOf S.fs)):=by
 refine ⟨h.cn,fun i hi => h.cells.lo _ (getD_mem hi),fun i hi => h.cells.hi _ (getD_mem hi),fun i hi j hj => h.cells.vals _ (getD_mem hi) _ (pair_at hj),?_,fun j hj => ?_⟩
 ·have h1:=regsOf_len (fs:=S.fs) (m:=40) fun f hf => by
   obtain ⟨hd,k⟩:=h.frame hf
   have:=hc.r1 f.proc.toNat (by have:=k.p0; have:=k.p1; omega)
   have:=k.len
   omega
  have:=h.few
  omega
 ·obtain ⟨f,hf,hv⟩:=mem_regsOf.1 (pair_at hj)
  obtain ⟨hd,k⟩:=h.frame hf
  exact k.vals _ hv
theorem StaOK.reached (hc : CodeOK np P) (h : StaOK np P S) : Good S.cs.length (reachedS S):=rt_good (h.valid hc) _
theorem reg_reached {f : Fm} (hf : f ∈ S.fs) {v : Int×Int} (hv : v ∈ f.regs) (hk : v.1=2) : v.2 ∈ reachedS S:=by
 obtain ⟨i,hi,e⟩:=at_pair (mem_regsOf.2 ⟨f,hf,hv⟩)
 have e1 : v.1=fstAt (regsOf S.fs) i:=congrArg Prod.fst e
 have e2 : v.2=sndAt (regsOf S.fs) i:=congrArg Prod.snd e
 rw [e2]
 exact reached_from hi (by rw [← e1]; exact hk)
theorem field_reached (hc : CodeOK np P) (h : StaOK np P S) {n : Int} (hn : n ∈ reachedS S) {v : Int×Int} (hv : v ∈ S.cs.getD n.toNat []) (hk : v.1=2) : v.2 ∈ reachedS S:=by
 obtain ⟨i,hi,e⟩:=at_pair hv
 have e1 : v.1=cK S.cs n.toNat i:=congrArg Prod.fst e
 have e2 : v.2=cZ S.cs n.toNat i:=congrArg Prod.snd e
 rw [e2]
 have hn0:=((h.reached hc).2 n hn).1
 exact reached_closed (h.valid hc) (c:=n.toNat) (by rw [show ((n.toNat : Nat) : Int)=n by omega]; exact hn) hi (by rw [← e1]; exact hk)
theorem renum_ok {R : List Int} {v : Int×Int} {nc : Nat} (h : chk v.1 v.2 nc=0) (hr : v.1=2→v.2 ∈ R) : chk (renum R v).1 (renum R v).2 R.length=0:=by
 unfold renum
 split
 ·rename_i e
  have:=List.idxOf_lt_length_of_mem (hr e)
  exact chk_at ⟨by show (0 : Int)≤_; omega,by show _ < _; omega⟩
 ·rename_i e
  exact chk_any h e
theorem row_renum {R : List Int} {L : List (Int×Int)} {nc : Nat} (h : rowOK nc L) (hr : ∀ v,v ∈ L→v.1=2→v.2 ∈ R) : rowOK R.length (L.map (renum R)):=fun x hx => by
 obtain ⟨v,hv,rfl⟩:=List.mem_map.1 hx
 exact renum_ok (h v hv) (hr v hv)
theorem fmAt_map {fs : List Fm} {g : Fm→Fm} {k : Nat} (h : k < fs.length) : fmAt (fs.map g) k=g (fmAt fs k):=by
 unfold fmAt
 rw [List.getD_eq_getElem?_getD,List.getD_eq_getElem?_getD,List.getElem?_map,List.getElem?_eq_getElem h]; rfl
theorem swept_ahead (R : List Int) (fs : List Fm) {k : Nat} (h : k < fs.length) : ahead (fs.map (renumF R)) k=ahead fs k:=by
 unfold ahead
 split
 ·rfl
 ·rw [fmAt_map (by omega)]; simp [renumF]
theorem sweptS_cells (S : Sta) : (sweptS S).cs.length=(reachedS S).length:=by simp [sweptS]
theorem StaOK.swept (hc : CodeOK np P) (h : StaOK np P S) : StaOK np P (sweptS S):=by
 have hg:=h.reached hc
 have hgl:=hg.len
 have hcn:=h.cn
 have hlen:=sweptS_cells S
 have hfl : (sweptS S).fs.length=S.fs.length:=by simp [sweptS]
 refine ⟨h.s0,h.s1,h.w0,h.w1,h.wz,fun e => by rw [hfl]; exact h.fin e,fun e => by rw [hfl]; exact h.unfin e,by rw [hfl]; exact h.few,by omega,⟨fun r hr => ?_,fun r hr => ?_,fun r hr => ?_⟩,fun k hk => ?_⟩
 ·obtain ⟨n,hn,rfl⟩:=List.mem_map.1 hr
  have hn1:=hg.2 n hn
  rw [List.length_map]
  exact h.cells.lo _ (getD_mem (by omega))
 ·obtain ⟨n,hn,rfl⟩:=List.mem_map.1 hr
  have hn1:=hg.2 n hn
  rw [List.length_map]
  exact h.cells.hi _ (getD_mem (by omega))
 ·obtain ⟨n,hn,rfl⟩:=List.mem_map.1 hr
  have hn1:=hg.2 n hn
  rw [hlen]
  exact row_renum (h.cells.vals _ (getD_mem (by omega))) fun v hv hk => field_reached hc h hn hv hk
 ·rw [hfl] at hk
  have hf:=h.frames k hk
  show FrOK np P (ahead (S.fs.map (renumF (reachedS S))) k) (sweptS S).cs.length (fmAt (S.fs.map (renumF (reachedS S))) k)
  rw [swept_ahead _ _ hk,fmAt_map hk,hlen]
  exact ⟨hf.p0,hf.p1,hf.a0,hf.a1,hf.t0,hf.t1,by simpa [renumF] using hf.len,row_renum hf.vals fun v hv hk2 => reg_reached (getD_mem hk) hv hk2⟩
end
end Go.Proofs.YtfaokaohhchdhaaGreatDoor
