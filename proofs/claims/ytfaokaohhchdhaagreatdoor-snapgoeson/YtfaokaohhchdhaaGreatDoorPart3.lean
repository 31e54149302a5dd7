/- Rows of values of the call's own; slices.Clone of a row of values. -/
import Derived.Test.YtfaokaohhchdhaaGreatDoorPart2
import Derived.Deep.Slices
namespace Go.Proofs.YtfaokaohhchdhaaGreatDoor
section
open Go.RowKit Go.Maps
def flatV:List (Int×Int)→List Value
 | []=>[]
 | p::L => .int .i64 p.1 :: .int .i64 p.2::flatV L
theorem flatV_len:∀L:List (Int×Int),(flatV L).length=L.length*2
 | []=>rfl
 | p::L=>by simp only[flatV,List.length_cons,flatV_len L];omega
theorem flatV_append:∀(L M:List (Int×Int)),flatV (L++M)=flatV L++flatV M
 | [],M=>rfl
 | p::L,M=>by simp only[List.cons_append,flatV,flatV_append L M]
theorem flatV_one:∀(L:List (Int×Int)),∀u ∈ flatV L,u.oneCell'=true
 | [],u,h=>absurd h List.not_mem_nil
 | p::L,u,h=>by
  simp only[flatV,List.mem_cons]at h
  rcases h with rfl|rfl|h
  ·rfl
  ·rfl
  ·exact flatV_one L u h
theorem flatV_at:∀(L:List (Int×Int)) (i:Nat),i<L.length→(flatV L)[i*2]?=some (.int .i64 (fstAt L i))∧(flatV L)[i*2+1]?=some (.int .i64 (sndAt L i))
 | [],i,h=>absurd h (Nat.not_lt_zero _)
 | p::L,0,_=>⟨rfl,rfl⟩
 | p::L,i+1,h=>by
  have:=flatV_at L i (by simpa using h)
  have e:(i+1)*2=i*2+1+1:=by omega
  simp only[e,flatV,List.getElem?_cons_succ]
  exact this
theorem fstAt_row {n:Nat} {k z:Nat→Int} {i:Nat} (h:i<n):fstAt (rowL n k z) i=k i:=by
 simp[fstAt,rowL,List.getD,h]
theorem sndAt_row {n:Nat} {k z:Nat→Int} {i:Nat} (h:i<n):sndAt (rowL n k z) i=z i:=by
 simp[sndAt,rowL,List.getD,h]
theorem row_news {w:World} {b o n:Nat} {k z:Nat→Int} (g:∀i,i<n→w.cell? ⟨b,o+i*2,none⟩=some (.int .i64 (k i))∧w.cell? ⟨b,o+i*2+1,none⟩=some (.int .i64 (z i))) :
  ∀j u,(flatV (rowL n k z))[j]?=some u→w.cell? ((⟨b,o,none⟩:Addr).add j)=some u:=by
 intro j u hj
 have hl:j<n*2:=by
  have:=(List.getElem?_eq_some_iff.1 hj).1
  rw[flatV_len,rowL_len]at this
  exact this
 rw[WideShapes.add_plain]
 have hi:j / 2<n:=by omega
 obtain⟨f0,f1⟩:=flatV_at (rowL n k z) (j / 2) (by rw[rowL_len];exact hi)
 rw[fstAt_row hi]at f0
 rw[sndAt_row hi]at f1
 obtain⟨g0,g1⟩:=g (j / 2) hi
 rcases Nat.mod_two_eq_zero_or_one j with e|e
 ·have ej:j=j / 2*2:=by omega
  rw[←ej]at f0 g0
  rw[f0]at hj
  rw[g0];exact hj
 ·have ej:j=j / 2*2+1:=by omega
  rw[←ej]at f1
  rw[Nat.add_assoc,←ej]at g1
  rw[f1]at hj
  rw[g1];exact hj
theorem infoVal:(Tryz.prog.info? 92).map (fun i=>(i.zero,i.size,i.bytes))=some (some (.agg #[.int .i64 0,.int .i64 0]),2,16):=by kernel_rfl
theorem own_vals {w:World} {base:Nat} {v:Value} {L:List (Int×Int)} (h:w.ownsRow base 92 2 v L.length (flatV L)) (hL:L.length≤100000):ValsAt w v L.length (fstAt L) (sndAt L):=by
 rcases h.2 with⟨rfl,h0⟩|⟨g,cap,cur,rfl,r⟩
 ·rw[h0];exact⟨none,0,rfl,by omega,Or.inl rfl⟩
 ·refine⟨_,cap,rfl,by omega,Or.inr ⟨g,0,rfl,(h.lt g rfl).2,fun i hi=>?_⟩⟩
  obtain⟨f0,f1⟩:=flatV_at L i hi
  rw[Nat.zero_add,h.cellAt (i*2) (by omega),h.cellAt (i*2+1) (by omega)]
  exact⟨f0,f1⟩
theorem append_vals {ops:Array Oper} {rest:List Oper} {o:Oper} {a:Act} {Q:Exit→Act→World→Prop} (w:World) (hgd:o.guard=none) (s y:Operand)
  (ho:o.op=.call { callee:=.builtin .append,args:=#[s,y],argTypes:=#[35,35] }) (base:Nat) (v:Value) (L:List (Int×Int)) (hs:a.eval s=v) (hown:w.ownsRow base 92 2 v L.length (flatV L))
  (ad:Addr) (n c:Nat) (k z:Nat→Int) (hy:a.eval y=.slice (some ad) n c) (hnews:∀j u,(flatV (rowL n k z))[j]?=some u→w.cell? (ad.add j)=some u) (hR:L.length+n≤100000) (hbase:base≤w.heap.size)
  (h:∀ad' cap w2,w2.ownsRow base 92 2 (.slice ad' (L.length+n) cap) (L++rowL n k z).length (flatV (L++rowL n k z))→w.grownBy w2 v.ownBlock→wpList Tryz.prog ops Q rest (a.put o.dst (.slice ad' (L.length+n) cap)) w2) :
  wpList Tryz.prog ops Q (o::rest) a w:=by
 obtain⟨i0,hi,hz0,hz1,hz2⟩:=info_parts infoVal
 refine wpList_append_own _ hgd s y 35 ho base 92 i0 (.agg #[.int .i64 0,.int .i64 0]) 2 16 Tryz.underlying35 hi hz0 hz1 hz2 rfl (by decide) v _ _ hs hown ad n c (flatV (rowL n k z)) hy (by rw[flatV_len,rowL_len]) hnews (flatV_one _) (by unfold maxLen;omega) (by omega) hbase ?_
 intro v' w2 h1 h2 _
 obtain⟨ad',cap,rfl⟩:=own_shape h1
 refine h ad' cap w2 ?_ h2
 rw[List.length_append,rowL_len,flatV_append]
 exact h1
set_option maxHeartbeats 400000 in
theorem cloneV (v:Value) (n:Nat) (k z:Nat→Int) (w:World) (h:ValsAt w v n k z) (hn:n≤1000) :
  Calls Tryz.prog 99 #[v] w fun e w'=>∃ad cap,e=.returned (.slice ad n cap)∧w'.ownsRow w.heap.size 92 2 (.slice ad n cap) (rowL n k z).length (flatV (rowL n k z))∧Below w.heap.size w w':=by
 obtain⟨a,cap,rfl,_,h⟩:=h
 rcases a with _|ad
 ·obtain rfl:n=0:=by
   rcases h with h|⟨b,o,e,_⟩
   ·exact h
   ·cases e
  have hq:=fun (w:World)=>Lib.run_eql_slice_nil (P:=Tryz.prog) w 35 92 none 0 cap 0 0 Tryz.underlying35
  go_enter Tryz.func99,Tryz.ntmps99
  go_wp2_with fail
  go_ret
  exact⟨none,0,rfl,World.ownsRow_nil _ _ _ _,Below.refl _ _⟩
 ·have hq:=fun (w:World)=>Lib.run_eql_slice_nil (P:=Tryz.prog) w 35 92 (some ad) n cap 0 0 Tryz.underlying35
  have HN:Hid (∀o:Obj,∀j u,(flatV (rowL n k z))[j]?=some u→(w.alloc o).cell? (ad.add j)=some u):=by
   intro o j u hj
   rcases h with rfl|⟨b,o',e,hlt,g⟩
   ·cases hj
   ·cases e
    have:=row_news g j u hj
    rw[WideShapes.add_plain]at this ⊢
    exact ((below_alloc w o).cell hlt).trans this
  clear h
  go_enter Tryz.func99,Tryz.ntmps99
  go_wp2_with (at_builtin;refine append_vals _ rfl _ _ rfl w.heap.size _ [] rfl (World.ownsRow_lit w #[] 0 (Nat.le_refl _) (by decide) rfl) ad n cap k z rfl (HN.out _) (by simp;omega) (by simp) ?_;intro ad' cp w2 hown hgrow)
  have hg:(w.alloc (.cells #[] 92)).grownBy w2 (some w.heap.size):=hgrow
  go_ret
  refine⟨ad',cp,rfl,?_,(below_alloc w _).grown hg (by simp) (fun k hk=>by cases hk;exact Nat.le_refl _)⟩
  simpa using hown
theorem infoLVal:(Tryz.prog.info? 35).map (fun i=>(i.zero,i.size,i.bytes))=some (some (.slice none 0 0),1,24):=by kernel_rfl
theorem own_cells {w:World} {base:Nat} {v:Value} {us:List Value} {m:Nat→Nat} {K Z:Nat→Nat→Int} (h:w.ownsRow base 35 1 v us.length us) (hu:∀i,i<us.length→∃u,us[i]?=some u∧ValsAt w u (m i) (K i) (Z i))
  (hL:us.length≤100000):CellsAt w v us.length m K Z:=by
 rcases h.2 with⟨rfl,h0⟩|⟨g,cap,cur,rfl,r⟩
 ·rw[h0];exact⟨none,0,rfl,by omega,Or.inl rfl⟩
 ·refine⟨_,cap,rfl,by omega,Or.inr ⟨g,0,rfl,(h.lt g rfl).2,fun i hi=>?_⟩⟩
  obtain⟨u,hu1,hu2⟩:=hu i hi
  exact⟨u,by rw[Nat.zero_add,h.cellAt i (by omega)];exact hu1,hu2⟩
theorem vals_one {w:World} {u:Value} {n:Nat} {k z:Nat→Int} (h:ValsAt w u n k z):u.oneCell'=true:=by
 obtain⟨a,cap,rfl,_⟩:=h
 rfl
theorem append_cells {ops:Array Oper} {rest:List Oper} {o:Oper} {a:Act} {Q:Exit→Act→World→Prop} (w:World) (hgd:o.guard=none) (s y:Operand)
  (ho:o.op=.call { callee:=.builtin .append,args:=#[s,y],argTypes:=#[24,24] }) (base:Nat) (v:Value) (us:List Value) (hs:a.eval s=v) (hown:w.ownsRow base 35 1 v us.length us)
  (ad:Addr) (c:Nat) (news:List Value) (hy:a.eval y=.slice (some ad) news.length c) (hnews:∀j u,news[j]?=some u→w.cell? (ad.add j)=some u) (h1:∀u ∈ news,u.oneCell'=true) (hR:us.length+news.length≤100000) (hbase:base≤w.heap.size)
  (h:∀ad' cap w2,w2.ownsRow base 35 1 (.slice ad' (us.length+news.length) cap) (us++news).length (us++news)→w.grownBy w2 v.ownBlock→wpList Tryz.prog ops Q rest (a.put o.dst (.slice ad' (us.length+news.length) cap)) w2) :
  wpList Tryz.prog ops Q (o::rest) a w:=by
 obtain⟨i0,hi,hz0,hz1,hz2⟩:=info_parts infoLVal
 refine wpList_append_own _ hgd s y 24 ho base 35 i0 (.slice none 0 0) 1 24 Tryz.underlying24 hi hz0 hz1 hz2 rfl (by decide) v _ _ hs hown ad _ c news hy (by omega) hnews h1 (by unfold maxLen;omega) (by omega) hbase ?_
 intro v' w2 hr hg _
 obtain⟨ad',cap,rfl⟩:=own_shape hr
 refine h ad' cap w2 ?_ hg
 rw[List.length_append]
 exact hr
end
section
structure In where
 op:Int
 a:Int
 b:Int
 c:Int
 n:Nat
 z:Nat→Int
def fromB (n lo hi:Int):Bool:=decide (lo≤n∧n≤hi)
def regsB (i:In) (regs:Int):Bool :=
 if i.op=10∨i.op=12 then true
 else if i.op=3 then fromB i.a 0 (regs - 1) && (fromB i.b 0 (regs - 1) && fromB i.c 0 (regs - 1))
 else if i.op=2∨i.op=4∨i.op=6 then fromB i.a 0 (regs - 1) && fromB i.b 0 (regs - 1)
 else fromB i.a 0 (regs - 1)
def restB (i:In) (code:Int):Bool :=
 if i.op=1 then fromB i.b (-1000000000) 1000000000
 else if i.op=5 then fromB i.b 1 4
 else if i.op=4∨i.op=6 then fromB i.c 0 3
 else if i.op=3 then decide (i.n=1) && fromB (i.z 0) 1 5
 else if i.op=12∨i.op=13 then fromB i.b 0 (code - 1)
 else true
def bareB (i:In):Bool :=
 if i.op=3 then true
 else if i.op=7 then decide (i.c=0)
 else if i.op=4∨i.op=6 then decide (i.n=0)
 else if i.op=1∨i.op=5∨i.op=2∨i.op=13 then decide (i.c=0) && decide (i.n=0)
 else if i.op=8∨i.op=9∨i.op=11 then decide (i.b=0) && (decide (i.c=0) && decide (i.n=0))
 else if i.op=12 then decide (i.a=0) && (decide (i.c=0) && decide (i.n=0))
 else decide (i.a=0) && (decide (i.b=0) && (decide (i.c=0) && decide (i.n=0)))
def argsB (i:In) (regs:Int):Bool:=decide (∀k,k<i.n→0≤i.z k∧i.z k≤regs - 1)
def insErr (np:Nat) (par:Nat→Int) (regs:Int) (code:Nat) (i:In):Int :=
 if fromB i.op 1 13=false then 4
 else if regsB i regs=false then 3
 else if i.op=7∧fromB i.b 0 ((np:Int) - 1)=false then 5
 else if restB i code=false then 3
 else if bareB i=false∨(i.op=7∧¬(i.n:Int)=par i.b.toNat) then 4
 else if i.op=7∧argsB i regs=false then 3
 else 0
structure Pc where
 params:Int
 regs:Int
 n:Nat
 ins:Nat→In
def pcErr (j:Nat) (p:Pc):Int :=
 if fromB p.params 0 3=false∨fromB p.regs (max 1 p.params) 40=false∨(j=0∧0<p.params) then 3
 else if p.n<1∨2000<p.n then 2 else 0
def bodyCErr (np:Nat) (par:Nat→Int) (p:Pc):Int :=
 if firstErr p.n (fun k=>insErr np par p.regs p.n (p.ins k))=0 then (if (p.ins (p.n - 1)).op=8∨(p.ins (p.n - 1)).op=12 then 0 else 4)
 else firstErr p.n (fun k=>insErr np par p.regs p.n (p.ins k))
def codeErr (np:Nat) (P:Nat→Pc):Int :=
 if np<1∨4<np then 2
 else if firstErr np (fun j=>pcErr j (P j))=0 then firstErr np (fun j=>bodyCErr np (fun k=>(P k).params) (P j))
 else firstErr np (fun j=>pcErr j (P j))
structure Fm where
 proc:Int
 pos:Int
 regs:List (Int×Int)
 to:Int
structure Sta where
 fs:List Fm
 cs:List (List (Int×Int))
 st:Int
 wh:Int
def noFm:Fm:=⟨0,0,[],0⟩
def fmAt (fs:List Fm) (i:Nat):Fm:=fs.getD i noFm
def cLen (cs:List (List (Int×Int))) (i:Nat):Nat:=(cs.getD i []).length
def cK (cs:List (List (Int×Int))) (i j:Nat):Int:=fstAt (cs.getD i []) j
def cZ (cs:List (List (Int×Int))) (i j:Nat):Int:=sndAt (cs.getD i []) j
def ahead (fs:List Fm) (k:Nat):Nat:=if k=0 then 1 else (fmAt fs (k - 1)).regs.length
def frErr (np:Nat) (P:Nat→Pc) (h nc:Nat) (f:Fm):Int :=
 if f.proc<0∨(np:Int)≤f.proc then 5
 else if f.pos<0∨((P f.proc.toNat).n:Int)≤f.pos∨f.to<0∨(h:Int)≤f.to then 3
 else if ¬(f.regs.length:Int)=(P f.proc.toNat).regs then 4
 else rowErr f.regs.length (fstAt f.regs) (sndAt f.regs) nc
def framesErr (np:Nat) (P:Nat→Pc) (nc:Nat) (fs:List Fm):Int:=firstErr fs.length fun k=>frErr np P (ahead fs k) nc (fmAt fs k)
def cellsErr (cs:List (List (Int×Int))):Int:=allErr cs.length (cLen cs) (cK cs) (cZ cs)
def staErr (np:Nat) (P:Nat→Pc) (S:Sta):Int :=
 if S.st<0∨3<S.st∨S.wh < -1000000000∨1000000000<S.wh then 3
 else if (¬S.st=3∧¬S.wh=0)∨(S.st=1∧¬S.fs.length=0)∨(¬S.st=1∧S.fs.length=0) then 4
 else if 10<S.fs.length then 2
 else if cellsErr S.cs=0 then framesErr np P S.cs.length S.fs else cellsErr S.cs
def vmErr (np:Nat) (P:Nat→Pc) (S:Sta):Int:=if codeErr np P=0 then staErr np P S else codeErr np P
def regsOf (fs:List Fm):List (Int×Int):=(fs.map Fm.regs).flatten
def reachedS (S:Sta):List Int:=reached S.cs.length (cLen S.cs) (cK S.cs) (cZ S.cs) (regsOf S.fs).length (fstAt (regsOf S.fs)) (sndAt (regsOf S.fs))
def renum (R:List Int) (v:Int×Int):Int×Int:=if v.1=2 then (2,(R.idxOf v.2:Int)) else v
def renumF (R:List Int) (f:Fm):Fm:=⟨f.proc,f.pos,f.regs.map (renum R),f.to⟩
def sweptS (S:Sta):Sta:=⟨S.fs.map (renumF (reachedS S)),(reachedS S).map fun n=>(S.cs.getD n.toNat []).map (renum (reachedS S)),S.st,S.wh⟩
def topF (S:Sta):Fm:=fmAt S.fs (S.fs.length - 1)
def withTop (S:Sta) (f:Fm):Sta:=⟨S.fs.set (S.fs.length - 1) f,S.cs,S.st,S.wh⟩
def regAt (L:List (Int×Int)) (a:Int):Int×Int:=L.getD a.toNat (0,0)
def setReg (S:Sta) (a:Int) (v:Int×Int):Sta:=withTop S ⟨(topF S).proc,(topF S).pos,(topF S).regs.set a.toNat v,(topF S).to⟩
def setPos (S:Sta) (k:Int):Sta:=withTop S ⟨(topF S).proc,k,(topF S).regs,(topF S).to⟩
def numOp (op x y:Int):Int:=if op=1 then x+y else if op=2 then x - y else if op=3 then x*y else 0
def opM (op:Int) (a b:Int×Int):Option (Int×Int) :=
 if op=5 then some (1,if a=b then 1 else 0)
 else if ¬a.1=1∨¬b.1=1 then none
 else if op=4 then some (1,if a.2<b.2 then 1 else 0)
 else if -1000000000≤numOp op a.2 b.2∧numOp op a.2 b.2≤1000000000 then some (1,numOp op a.2 b.2) else none
def hasField (S:Sta) (v:Int×Int) (c:Int):Bool:=decide (v.1=2∧c<(S.cs.getD v.2.toNat []).length)
def fieldOf (S:Sta) (v:Int×Int) (c:Int):Int×Int:=regAt (S.cs.getD v.2.toNat []) c
def setField (S:Sta) (v:Int×Int) (c:Int) (x:Int×Int):Sta:=⟨S.fs,S.cs.set v.2.toNat ((S.cs.getD v.2.toNat []).set c.toNat x),S.st,S.wh⟩
def roomS (S:Sta):Sta:=if S.cs.length=24 then sweptS S else S
def withCell (S:Sta) (n:Int):Sta:=⟨S.fs,S.cs++[List.replicate n.toNat (0,0)],S.st,S.wh⟩
def valueM (S:Sta) (i:In):Option (Sta×(Int×Int)) :=
 if i.op=1 then some (S,(1,i.b))
 else if i.op=2 then some (S,regAt (topF S).regs i.b)
 else if i.op=3 then (opM (i.z 0) (regAt (topF S).regs i.b) (regAt (topF S).regs i.c)).map fun v=>(S,v)
 else if i.op=5 then (if (roomS S).cs.length=24 then none else some (withCell (roomS S) i.b,(2,((roomS S).cs.length:Int))))
 else if hasField S (regAt (topF S).regs i.b) i.c=true then some (S,fieldOf S (regAt (topF S).regs i.b) i.c) else none
def argRegs (n:Nat) (i:In) (from':List (Int×Int)):List (Int×Int):=(List.range n).map fun k=>if k<i.n then regAt from' (i.z k) else (0,0)
def callS (P:Nat→Pc) (S:Sta) (i:In):Sta:=⟨S.fs++[⟨i.b,0,argRegs (P i.b.toNat).regs.toNat i (topF S).regs,i.a⟩],S.cs,S.st,S.wh⟩
def popS (S:Sta):Sta:=⟨S.fs.take (S.fs.length - 1),S.cs,S.st,S.wh⟩
def backS (S:Sta) (v:Int×Int):Sta :=
 if S.fs.length - 1=0 then ⟨[],S.cs,1,S.wh⟩ else setReg (popS S) (topF S).to v
def doM (P:Nat→Pc) (S:Sta) (i:In):Option (Sta×List Int×Bool) :=
 if i.op=6 then (if hasField S (regAt (topF S).regs i.a) i.c=true then some (setField S (regAt (topF S).regs i.a) i.c (regAt (topF S).regs i.b),[],false) else none)
 else if i.op=7 then (if S.fs.length=10 then none else some (callS P S i,[],false))
 else if i.op=8 then some (backS S (regAt (topF S).regs i.a),[],false)
 else if i.op=9 then (if (regAt (topF S).regs i.a).1=1 then some (S,[(regAt (topF S).regs i.a).2],false) else none)
 else if i.op=10 then some (S,[],true)
 else if i.op=11 then (if (regAt (topF S).regs i.a).1=1 then some (⟨S.fs,S.cs,3,(regAt (topF S).regs i.a).2⟩,[],false) else none)
 else if i.op=12 then some (setPos S i.b,[],false)
 else if i.op=13 then some (if ¬(regAt (topF S).regs i.a).1=2∧(regAt (topF S).regs i.a).2=0 then setPos S i.b else S,[],false)
 else (valueM S i).map fun x=>(setReg x.1 i.a x.2,[],false)
def procS (P:Nat→Pc) (S:Sta):Pc:=P (topF S).proc.toNat
def insS (P:Nat→Pc) (S:Sta):In:=(procS P S).ins (topF S).pos.toNat
def nextPos (P:Nat→Pc) (S:Sta):Int:=min ((topF S).pos+1) ((procS P S).n - 1)
structure Rn where
 s:Sta
 said:List Int
 paused:Bool
def stepM (P:Nat→Pc) (R:Rn):Rn :=
 match doM P (setPos R.s (nextPos P R.s)) (insS P R.s) with
 | some (S,l,b)=>⟨S,R.said++l,R.paused || b⟩
 | none=>⟨⟨R.s.fs,R.s.cs,2,R.s.wh⟩,R.said,R.paused⟩
def goesB (P:Nat→Pc) (R:Rn):Bool:=decide (R.s.st=0) && (!R.paused && (decide (R.said.length<40) || !decide ((insS P R.s).op=9)))
def runM (P:Nat→Pc):Nat→Rn→Rn×Nat
 | 0,R=>(R,0)
 | k+1,R=>if goesB P R=true then ((runM P k (stepM P R)).1,(runM P k (stepM P R)).2+1) else (R,0)
def itM (P:Nat→Pc) (R:Rn):Nat→Rn
 | 0=>R
 | k+1=>stepM P (itM P R k)
theorem itM_succ (P:Nat→Pc) (R:Rn):∀k,itM P R (k+1)=itM P (stepM P R) k
 | 0=>rfl
 | k+1=>by
  show stepM P (itM P R (k+1))=stepM P (itM P (stepM P R) k)
  rw[itM_succ P R k]
theorem runM_at {P:Nat→Pc}:∀ {fuel k:Nat} {R:Rn},k≤fuel→(∀j,j<k→goesB P (itM P R j)=true)→(k=fuel∨goesB P (itM P R k)=false)→runM P fuel R=(itM P R k,k)
 | 0,k,R,hk,_,_=>by
  obtain rfl:k=0:=by omega
  rfl
 | fuel+1,0,R,_,_,he=>by
  rcases he with he|he
  ·omega
  ·show (if goesB P R=true then _ else _)=_
   rw[if_neg (by rw[show goesB P R=false from he];decide)];rfl
 | fuel+1,k+1,R,hk,hj,he=>by
  have h0:goesB P R=true:=hj 0 (by omega)
  show (if goesB P R=true then _ else _)=_
  rw[if_pos h0]
  have:=runM_at (P:=P) (fuel:=fuel) (k:=k) (R:=stepM P R) (by omega) (fun j hjk=>by rw[←itM_succ];exact hj (j+1) (by omega)) (he.imp (by omega) (by rw[itM_succ];exact id))
  rw[this,itM_succ]
end
end Go.Proofs.YtfaokaohhchdhaaGreatDoor
