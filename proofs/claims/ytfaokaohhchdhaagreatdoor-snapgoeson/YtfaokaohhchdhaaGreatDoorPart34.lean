/- The text of tokens, by the reckoning: a blank ahead of each word. -/
import Derived.Test.YtfaokaohhchdhaaGreatDoorPart33
import Derived.Maps.StringElems
import Derived.Laws.Externs
import Derived.Lib.Bytealg
namespace Go.Proofs.YtfaokaohhchdhaaGreatDoor
section
open Go.RowKit Go.Maps
def blankL (ws:List Wd):List UInt8:=(ws.map fun w=>32::w.data.toList).flatten
theorem blankL_append (a b:List Wd):blankL (a++b)=blankL a++blankL b:=by simp[blankL]
theorem blankL_one (w:Wd):blankL [w]=32::w.data.toList:=by simp[blankL]
theorem blankL_len:∀ {ws:List Wd},(∀w ∈ ws,shortW w)→(blankL ws).length≤ws.length*31
 | [],_=>by simp[blankL]
 | w::ws,h=>by
  have h1:w.data.toList.length≤30:=h w (by simp)
  have h2:=blankL_len fun x hx=>h x (List.mem_cons_of_mem _ hx)
  have e:blankL (w::ws)=32::(w.data.toList++blankL ws):=by simp[blankL]
  rw[e]
  simp only[List.length_cons,List.length_append,Nat.succ_mul]
  omega
theorem add_two (a b:List UInt8) (h:a.length+b.length≤10000000) (w:World):(Op.stringOp .add (bs a) (bs b)).run Tryz.prog w=.ok (.string (bs (a++b))) w:=by
 rw[run_string_add_sum w _ _ (by rw[bs_size,bs_size];omega),bs_append]
theorem add_blank (t:Wd) (h:t.data.toList.length≤10000000) (w:World):(Op.stringOp .add ⟨#[32]⟩ t).run Tryz.prog w=.ok (.string (bs (32::t.data.toList))) w:=by
 have e:(⟨#[32]⟩:ByteArray)=bs [32]:=rfl
 rw[e,←bs_of t,run_string_add_sum w _ _ (by rw[bs_size,bs_size];simp only[List.length_cons,List.length_nil];omega),bs_append]
 rfl
theorem toks_short {k z:Nat→Int} {nf:Nat} {locals:Int} (hl:locals≤6) (hn:nf≤1000):∀ {n:Nat},(∀j,j<n→tokErr (k j) (z j) nf locals=0)→∀w ∈ toksW k z n,shortW w
 | 0,_,w,hw=>by cases hw
 | n+1,h,w,hw=>by
  rcases List.mem_append.1 hw with hw|hw
  ·exact toks_short hl hn (fun j hj=>h j (by omega)) w hw
  ·rw[List.mem_singleton]at hw;subst hw;exact tokW_short hl hn (h n (by omega))
set_option maxHeartbeats 2000000 in
theorem exprText (N:Nat) (v:Value) (n:Nat) (k z:Nat→Int) (nf:Nat) (locals:Int) (hl:locals≤6) (hnf:nf≤1000) (hn:n≤24) (ht:∀j,j<n→tokErr (k j) (z j) nf locals=0) (w:World) (hN:N≤w.heap.size) (he:Env N w) (h:ToksAt N w v n k z) :
  Calls Tryz.prog 218 #[v] w fun e w'=>e=.returned (.string (bs (blankL (toksW k z n))))∧Below w.heap.size w w':=by
 have HT:Hid (∀j,j<n→tokErr (k j) (z j) nf locals=0):=ht
 have HE:Hid (Env N w):=he
 obtain⟨a,cap,rfl,hn9,hc⟩:=h
 have HC:Hid (n=0∨∃b o,a=some ⟨b,o,none⟩∧b<N∧∀i,i<n→w.cell? ⟨b,o+i*2,none⟩=some (.int .i64 (k i))∧w.cell? ⟨b,o+i*2+1,none⟩=some (.int .i64 (z i))):=hc
 clear ht he hc
 go_enter Tryz.func218,Tryz.ntmps218
 go_upto_region 3 with (fail)
 go_loopw [3,8] (fun q i wr=>∃j:Nat,j≤n∧i=.int .i64 j∧q=.string (bs (blankL (toksW k z j)))∧Below w.heap.size w wr) (fun _ i _=>n - (intOf i).toNat)
 case atStart=>exact⟨0,by omega,rfl,rfl,Below.refl _ _⟩
 case round =>
  obtain⟨j,hj0,rfl,rfl,hbw⟩:=hrel
  by_cases hj:j<n
  ·obtain h|⟨b,o,rfl,hb,hct⟩:=HC.out
   ·omega
   obtain⟨q0,q1⟩:=hct j hj
   rw[←hbw.cell (p:=⟨b,o+j*2,none⟩) (Nat.lt_of_lt_of_le hb hN)]at q0
   rw[←hbw.cell (p:=⟨b,o+j*2+1,none⟩) (Nat.lt_of_lt_of_le hb hN)]at q1
   have hji:(j:Int)<(n:Int):=by omega
   have hsh:shortW (tokW (k j) (z j)):=tokW_short hl hnf (HT.out j hj)
   have hs30:(tokW (k j) (z j)).data.toList.length≤30:=hsh
   have hbl:=blankL_len (toks_short hl hnf (n:=j) fun i hi=>HT.out i (by omega))
   have hlen:(toksW k z j).length=j:=toksW_length k z j
   have hadd1:=add_blank (tokW (k j) (z j)) (by omega)
   have hadd2:=add_two (blankL (toksW k z j)) (32::(tokW (k j) (z j)).data.toList) (by rw[hlen]at hbl;simp only[List.length_cons];omega)
   have HNx:Hid (blankL (toksW k z (j+1))=blankL (toksW k z j)++(32::(tokW (k j) (z j)).data.toList)):=by
    show _=_
    rw[toksW,blankL_append,blankL_one]
   have HTk:Hid (∀w1,Below w.heap.size w w1→Calls Tryz.prog 146 #[.agg #[.int .i64 (k j),.int .i64 (z j)]] w1 fun e w'=>e=.returned (.string (tokW (k j) (z j)))∧Below w1.heap.size w1 w'):=fun w1 hb1 =>
    tokText N (k j) (z j) (tokFit_of hl hnf (HT.out j hj)) w1 (HE.out.below (hb1.mono hN)) (Nat.le_trans hN hb1.size)
   clear hct hsh hbl hs30 hlen
   generalize tokW (k j) (z j)=tw at *
   generalize blankL (toksW k z j)=bl at *
   go_wp2_with (first
    | (go_at_call 146;refine (HTk.out _ (hbw.alloc hbw.size _)).mono ?_;rintro e w1 ⟨rfl,b1⟩))
   go_roundw
   case rel=>exact⟨j+1,by omega,by go_num,by rw[HNx.out],(hbw.alloc hbw.size _).trans (b1.mono (by have:=hbw.size;simp;omega))⟩
   case measure=>simp[intOf];omega
  ·obtain rfl:j=n:=by omega
   go_wp2_with fail
   go_ret
   exact⟨rfl,hbw⟩
structure Spc (N:Nat) (w:World):Prop where
 low:1≤N
 tab:Lib.TabIs Tryz.prog w "strings.asciiSpace" .u8 Lib.asciiSpaceTab
theorem gSpace:Tryz.prog.globalNamed "strings.asciiSpace"=some 0:=by kernel_rfl
theorem Spc.below {N:Nat} {w w':World} (h:Spc N w) (hb:Below N w w'):Spc N w':=by
 refine⟨h.low,?_⟩
 unfold Lib.TabIs
 rw[var_of_block gSpace (hb.block 0 (by have:=h.low;omega))]
 exact h.tab
def wordsL:List UInt8:=[115,101,116,32,112,117,116,32,115,97,121,32,112,97,117,115,101,32,103,111,32,105,102,32,119,104,105,108,101,32,114,101,116,117,114,110]
theorem words_fields:Lib.fields wordsL=[stL 1,stL 2,stL 3,stL 4,stL 5,stL 6,stL 7,stL 8]:=by decide +kernel
theorem words_ascii:∀b ∈ wordsL,b.toNat<128:=by decide +kernel
theorem fieldsK (N:Nat) (w:World) (h:Spc N w) :
  Calls Tryz.prog 151 #[.string ⟨#[115,101,116,32,112,117,116,32,115,97,121,32,112,97,117,115,101,32,103,111,32,105,102,32,119,104,105,108,101,32,114,101,116,117,114,110]⟩] w fun e w'=>e=.returned (.slice (some ⟨w.heap.size,0,none⟩) 8 8) ∧
   w'=w.alloc (.cells #[.string (bs (stL 1)),.string (bs (stL 2)),.string (bs (stL 3)),.string (bs (stL 4)),.string (bs (stL 5)),.string (bs (stL 6)),.string (bs (stL 7)),.string (bs (stL 8))] 9):=by
 have hk:=Tryz.strings_Fields_laid (bs wordsL) w (by rw[bs_size];decide) (fun j b hb=>words_ascii b (List.mem_of_getElem? hb)) h.tab
 rw[bs_data,words_fields]at hk
 exact hk
end
section
open Go.RowKit
set_option maxHeartbeats 2000000 in
theorem refCheckTok (k z:Int) (a:Option Addr) (nf cap:Nat) (locals:Int) (w:World) :
  Calls Tryz.prog 147 #[.agg #[.int .i64 k,.int .i64 z],.slice a nf cap,.int .i64 locals] w fun e w'=>e=.returned (.int .i64 (tokErr k z nf locals))∧Below w.heap.size w w':=by
 go_enter Tryz.func147,Tryz.ntmps147
 go_wp2
 all_goals
  go_ret
  refine⟨ret_num ?_,below_alloc _ _⟩
  go_light
  try simp only[beq_iff_eq,ne_eq,beq_eq_false_iff_ne,Bool.not_eq_true',Bool.not_eq_false',decide_eq_false_iff_not,decide_eq_true_eq]at *
  unfold tokErr
  (repeat' split)<;>omega
set_option maxHeartbeats 1000000 in
theorem refAsks (N:Nat) (k z:Int) (v:Value) (nf:Nat) (par loc:Nat→Int) (bv:Nat→Value) (w:World) (h:FunsAt N w v nf par loc bv) (hc:k=6→0≤z∧z.toNat<nf) :
  Calls Tryz.prog 148 #[.agg #[.int .i64 k,.int .i64 z],v] w fun e w'=>e=.returned (.int .i64 (asksOf k z par))∧Below w.heap.size w w':=by
 by_cases hk:k=6
 ·obtain⟨h0,h1⟩:=hc hk
  obtain⟨i,rfl⟩:∃i:Nat,z=i:=⟨z.toNat,by omega⟩
  have hi:i<nf:=by omega
  obtain⟨a,cap,rfl,hn,h|⟨b,o,rfl,hlt,g⟩⟩:=h
  ·omega
  obtain⟨c0,c1,c2,_⟩:=g i hi
  have l0:=cell_lt c0
  have HE:Hid (asksOf k i par=par i):=by
   show asksOf k i par=par i
   subst hk;simp[asksOf]
  clear g hc h1
  subst hk
  go_enter Tryz.func148,Tryz.ntmps148
  go_wp2
  go_ret
  exact⟨ret_num HE.out.symm,below_alloc _ _⟩
 ·obtain⟨a,cap,rfl,hn,_⟩:=h
  have hkt:(k == 6)=false:=by simp[hk]
  clear hc
  go_enter Tryz.func148,Tryz.ntmps148
  go_wp2
  all_goals
   go_ret
   refine⟨ret_num ?_,below_alloc _ _⟩
   go_light
   simp only[beq_iff_eq,beq_eq_false_iff_ne,ne_eq]at *
   unfold asksOf
   (repeat' split)<;>omega
end
section
open Go.RowKit Go.Maps
structure Sv (A:Nat) (w w':World):Prop where
 os:w'.os=w.os
 tape:w'.tape=w.tape
 output:w'.output=w.output
 size:w.heap.size≤w'.heap.size
 block:∀k,k<w.heap.size→¬k=A→¬k=A+1→w'.heap[k]?=w.heap[k]?
theorem Sv.refl (A:Nat) (w:World):Sv A w w:=⟨rfl,rfl,rfl,Nat.le_refl _,fun _ _ _ _=>rfl⟩
theorem Sv.trans {A:Nat} {a b c:World} (h:Sv A a b) (k:Sv A b c):Sv A a c :=
 ⟨k.os.trans h.os,k.tape.trans h.tape,k.output.trans h.output,Nat.le_trans h.size k.size,fun n hn hx hy=>(k.block n (Nat.lt_of_lt_of_le hn h.size) hx hy).trans (h.block n hn hx hy)⟩
theorem Sv.of {A:Nat} {a b:World} (h:Below a.heap.size a b):Sv A a b:=⟨h.os,h.tape,h.output,h.size,fun k hk _ _=>h.block k hk⟩
theorem Sv.low {A N:Nat} {a b:World} (h:Sv A a b) (h1:N≤A) (h2:N≤a.heap.size):Below N a b:=⟨h.os,h.tape,h.output,h.size,fun k hk=>h.block k (Nat.lt_of_lt_of_le hk h2) (by omega) (by omega)⟩
theorem Sv.cell {A:Nat} {a b:World} (h:Sv A a b) {p:Addr} (h1:p.block<a.heap.size) (h2:¬p.block=A) (h3:¬p.block=A+1):b.cell? p=a.cell? p:=World.cell?_of_block (w:=a) (a:=p) (h.block p.block h1 h2 h3)
theorem Sv.far {A m:Nat} {a b:World} (h:Sv A a b) (hm:A+2≤m):Far m a b:=⟨fun k hk hk2=>h.block k hk (by omega) (by omega),h.size⟩
theorem Sv.set (A:Nat) (w:World) (B i:Nat) (v:Value) (hB:B=A∨B=A+1):Sv A w (w.setCell ⟨B,i,none⟩ v):=by
 have h:Below B w (w.setCell ⟨B,i,none⟩ v):=(Below.refl B w).setCell (Nat.le_refl _) _
 refine⟨h.os,h.tape,h.output,h.size,fun k hk hx hy=>?_⟩
 exact Below.heap_setCell w ⟨B,i,none⟩ v k (by show ¬k=B;omega)
theorem Grow.sv {A B:Nat} {a b:World} {u v:Value} (h:Grow a u b v) (hu:∀k,u.ownBlock=some k→B≤k) {w:World} (hw:w.heap.size≤B) (hs:Sv A w a):Sv A w b :=
 ⟨h.os.trans hs.os,h.tape.trans hs.tape,h.output.trans hs.output,Nat.le_trans hs.size h.size,fun k hk hx hy=>(h.block k (Nat.lt_of_lt_of_le hk hs.size) fun e=>by have:=hu k e;omega).trans (hs.block k hk hx hy)⟩
structure QC where
 N:Nat
 A:Nat
 wb:Nat
 x4:Nat
 x5:Nat
 xw:Nat
 xe:Nat
 xb:Nat
 W:List Wd
 fv:Value
 nf:Nat
 par:Nat→Int
def QC.fw (c:QC):Value:=.func (.func 143) #[] #[.pointer (some ⟨c.A,0,none⟩),.pointer (some ⟨c.x4,0,none⟩),.pointer (some ⟨c.A+1,0,none⟩)]
def QC.fe (c:QC):Value:=.func (.func 144) #[] #[.pointer (some ⟨c.A+1,0,none⟩),.pointer (some ⟨c.xw,0,none⟩),.pointer (some ⟨c.x5,0,none⟩)]
def QC.fb (c:QC):Value:=.func (.func 149) #[] #[.pointer (some ⟨c.xw,0,none⟩),.pointer (some ⟨c.A+1,0,none⟩),.pointer (some ⟨c.xe,0,none⟩),.pointer (some ⟨c.xb,0,none⟩)]
structure QSt (c:QC) (w:World):Prop where
 env:Env c.N w
 spc:Spc c.N w
 lowN:c.N≤c.A
 w4:w.cell? ⟨c.x4,0,none⟩=some (.slice (some ⟨c.wb,0,none⟩) c.W.length c.W.length)
 wds:∀j y,c.W[j]?=some y→w.cell? ⟨c.wb,j,none⟩=some (.string y)
 small:∀y ∈ c.W,y.size≤100000
 len:c.W.length≤100000
 f5:w.cell? ⟨c.x5,0,none⟩=some c.fv
 funs:∃loc bv,FunsAt c.A w c.fv c.nf c.par loc bv
 parOK:∀i,i<c.nf→parErr (c.par i)=0
 nf4:c.nf≤4
 cw:w.cell? ⟨c.xw,0,none⟩=some c.fw
 ce:w.cell? ⟨c.xe,0,none⟩=some c.fe
 cb:w.cell? ⟨c.xb,0,none⟩=some c.fb
 o1:c.wb<c.A
 o2:c.x4<c.A
 o3:c.x5<c.A
 o4:c.A+1<c.xw
 o5:c.A+1<c.xe
 o6:c.A+1<c.xb
 top:c.A+1<w.heap.size
theorem QSt.keep {c:QC} {w w':World} (h:QSt c w) (s:Sv c.A w w'):QSt c w':=by
 have t:=h.top
 obtain⟨loc,bv,hf⟩:=h.funs
 have o1:=h.o1
 have o2:=h.o2
 have o3:=h.o3
 have o4:=h.o4
 have o5:=h.o5
 have o6:=h.o6
 have low:Below c.A w w':=s.low (Nat.le_refl _) (by omega)
 have cw:=cell_lt h.cw
 have ce:=cell_lt h.ce
 have cb:=cell_lt h.cb
 refine⟨h.env.below (low.mono h.lowN),h.spc.below (low.mono h.lowN),h.lowN,?_,fun j y hj=>?_,h.small,h.len,?_,⟨loc,bv,hf.below low⟩,h.parOK,h.nf4,?_,?_,?_,o1,o2,o3,o4,o5,o6,Nat.lt_of_lt_of_le t s.size⟩
 ·rw[low.cell (p:=⟨c.x4,0,none⟩) o2];exact h.w4
 ·rw[low.cell (p:=⟨c.wb,j,none⟩) o1];exact h.wds j y hj
 ·rw[low.cell (p:=⟨c.x5,0,none⟩) o3];exact h.f5
 ·rw[s.cell (p:=⟨c.xw,0,none⟩) cw (by show ¬c.xw=c.A;omega) (by show ¬c.xw=c.A+1;omega)];exact h.cw
 ·rw[s.cell (p:=⟨c.xe,0,none⟩) ce (by show ¬c.xe=c.A;omega) (by show ¬c.xe=c.A+1;omega)];exact h.ce
 ·rw[s.cell (p:=⟨c.xb,0,none⟩) cb (by show ¬c.xb=c.A;omega) (by show ¬c.xb=c.A+1;omega)];exact h.cb
structure QR (c:QC) (w:World) (q:Rs):Prop where
 st:QSt c w
 at_:∃n:Nat,n≤c.W.length∧q.1=c.W.drop n∧w.heap[c.A]?=some (.cells #[.int .i64 n] 3 (0,0))
 ok:w.heap[c.A+1]?=some (.cells #[.bool q.2] 4 (0,0))
theorem QR.keep {c:QC} {w w':World} {q:Rs} (h:QR c w q) (hb:Below w.heap.size w w'):QR c w' q:=by
 have t:=h.st.top
 obtain⟨n,h1,h2,h3⟩:=h.at_
 exact⟨h.st.keep (Sv.of hb),⟨n,h1,h2,by rw[hb.block _ (by omega)];exact h3⟩,by rw[hb.block _ (by omega)];exact h.ok⟩
theorem QR.low {c:QC} {w w':World} {q:Rs} (h:QR c w q) (B:Nat) (hB:c.A+1<B) (hx:c.xw<B∧c.xe<B∧c.xb<B) (hb:Below B w w'):QR c w' q:=by
 have t:=h.st.top
 obtain⟨n,h1,h2,h3⟩:=h.at_
 obtain⟨loc,bv,hf⟩:=h.st.funs
 have o1:=h.st.o1
 have o2:=h.st.o2
 have o3:=h.st.o3
 have lowN:=h.st.lowN
 refine⟨⟨h.st.env.below (hb.mono (by omega)),h.st.spc.below (hb.mono (by omega)),lowN,?_,fun j y hj=>?_,h.st.small,h.st.len,?_,⟨loc,bv,hf.below (hb.mono (by omega))⟩,h.st.parOK,h.st.nf4,?_,?_,?_,o1,o2,o3,h.st.o4,h.st.o5,h.st.o6,Nat.lt_of_lt_of_le t hb.size⟩,⟨n,h1,h2,by rw[hb.block _ (by omega)];exact h3⟩,by rw[hb.block _ (by omega)];exact h.ok⟩
 ·rw[hb.cell (p:=⟨c.x4,0,none⟩) (by show c.x4<B;omega)];exact h.st.w4
 ·rw[hb.cell (p:=⟨c.wb,j,none⟩) (by show c.wb<B;omega)];exact h.st.wds j y hj
 ·rw[hb.cell (p:=⟨c.x5,0,none⟩) (by show c.x5<B;omega)];exact h.st.f5
 ·rw[hb.cell (p:=⟨c.xw,0,none⟩) hx.1];exact h.st.cw
 ·rw[hb.cell (p:=⟨c.xe,0,none⟩) hx.2.1];exact h.st.ce
 ·rw[hb.cell (p:=⟨c.xb,0,none⟩) hx.2.2];exact h.st.cb
theorem QR.lts {c:QC} {w:World} {q:Rs} (h:QR c w q):c.A+1<w.heap.size∧c.xw<w.heap.size∧c.xe<w.heap.size∧c.xb<w.heap.size:=⟨h.st.top,cell_lt h.st.cw,cell_lt h.st.ce,cell_lt h.st.cb⟩
theorem QR.okc {c:QC} {w:World} {q:Rs} (h:QR c w q):w.cell? ⟨c.A+1,0,none⟩=some (.bool q.2)∧w.frozen? ⟨c.A+1,0,none⟩=false:=by
 constructor
 ·unfold World.cell?;rw[h.ok];rfl
 ·unfold World.frozen?;rw[h.ok];rfl
theorem QR.small {c:QC} {w:World} {q:Rs} (h:QR c w q):(hdW q.1).size≤100000:=by
 obtain⟨n,h1,h2,_⟩:=h.at_
 rw[h2]
 cases e:c.W.drop n with
 | nil=>exact Nat.zero_le _
 | cons x ws=>exact h.st.small x (List.mem_of_mem_drop (by rw[e];simp))
theorem QR.len {c:QC} {w:World} {q:Rs} (h:QR c w q):q.1.length≤100000:=by
 obtain⟨n,h1,h2,_⟩:=h.at_
 rw[h2,List.length_drop]
 have:=h.st.len
 omega
theorem QR.down {c:QC} {w:World} {q:Rs} (h:QR c w q) (b:Bool):QR c (w.setCell ⟨c.A+1,0,none⟩ (.bool b)) (q.1,b):=by
 have s:=Sv.set c.A w (c.A+1) 0 (.bool b) (Or.inr rfl)
 obtain⟨n,h1,h2,h3⟩:=h.at_
 refine⟨h.st.keep s,⟨n,h1,h2,?_⟩,?_⟩
 ·rw[Below.heap_setCell w ⟨c.A+1,0,none⟩ _ c.A (by show ¬c.A=c.A+1;omega)];exact h3
 ·rw[heap_setCell_same w (c.A+1) 0 _ _ _ h.ok];rfl
set_option maxHeartbeats 1000000 in
theorem wordR (c:QC) (w:World) (q:Rs) (h:QR c w q) :
  Calls Tryz.prog 143 #[.pointer (some ⟨c.A,0,none⟩),.pointer (some ⟨c.x4,0,none⟩),.pointer (some ⟨c.A+1,0,none⟩)] w fun e w'=>e=.returned (.string (hdW q.1))∧Hid (QR c w' (wordQ q))∧Sv c.A w w':=by
 have HR:Hid (QR c w q):=h
 obtain⟨n,hn,hq,hA⟩:=h.at_
 have a0:w.cell? ⟨c.A,0,none⟩=some (.int .i64 n):=by unfold World.cell?;rw[hA];rfl
 have af:w.frozen? ⟨c.A,0,none⟩=false:=by unfold World.frozen?;rw[hA];rfl
 have w4:=h.st.w4
 have o2:¬c.A=c.x4:=by have:=h.st.o2;omega
 have hl:=h.st.len
 obtain⟨k0,kf⟩:=h.okc
 by_cases hlt:n<c.W.length
 ·obtain⟨y,hy⟩:∃y,c.W[n]?=some y:=⟨_,List.getElem?_eq_getElem hlt⟩
  have hd:q.1=y::c.W.drop (n+1):=by
   rw[hq,List.drop_eq_getElem_cons hlt]
   rw[List.getElem?_eq_getElem hlt]at hy
   injection hy with hy
   rw[hy]
  have q1:(w.setCell ⟨c.A,0,none⟩ (.int .i64 ((n:Int)+1))).cell? ⟨c.wb,n,none⟩=some (.string y):=by
   have:=Sv.set c.A w c.A 0 (.int .i64 ((n:Int)+1)) (Or.inl rfl)
   have o1:=h.st.o1
   rw[(this.low (Nat.le_refl _) (by have:=h.st.top;omega)).cell (p:=⟨c.wb,n,none⟩) o1]
   exact h.st.wds n y hy
  have HE:Hid (QR c (w.setCell ⟨c.A,0,none⟩ (.int .i64 ((n:Int)+1))) (wordQ q)):=by
   have s:=Sv.set c.A w c.A 0 (.int .i64 ((n:Int)+1)) (Or.inl rfl)
   refine⟨h.st.keep s,⟨n+1,hlt,?_,?_⟩,?_⟩
   ·unfold wordQ;rw[hd];rfl
   ·rw[heap_setCell_same w c.A 0 _ _ _ hA];rfl
   ·rw[Below.heap_setCell w ⟨c.A,0,none⟩ _ (c.A+1) (by show ¬c.A+1=c.A;omega),h.ok]
    unfold wordQ;rw[hd];simp
  have HD:Hid (hdW q.1=y):=by show _=_;rw[hd];rfl
  have hni:¬((c.W.length:Int)≤(n:Int)):=by omega
  have hni2:(n:Int)<(c.W.length:Int):=by omega
  have hnw:(n:Int)+1≤200000:=by omega
  clear h hA hq hd hy hl hn
  go_enter Tryz.func143,Tryz.ntmps143
  go_wp2
  go_ret
  exact⟨by rw[HD.out];rfl,HE,Sv.set c.A w c.A 0 _ (Or.inl rfl)⟩
 ·obtain rfl:n=c.W.length:=by omega
  have hd:q.1=[]:=by rw[hq,List.drop_length]
  have HE:Hid (QR c (w.setCell ⟨c.A+1,0,none⟩ (.bool false)) (wordQ q)):=by
   show QR _ _ _
   have:=h.down false
   unfold wordQ
   rw[hd]at this ⊢
   simpa using this
  have HD:Hid (hdW q.1=bs []):=by show _=_;rw[hd];rfl
  clear h hA hq hd hl hn
  go_enter Tryz.func143,Tryz.ntmps143
  go_wp2
  go_ret
  exact⟨by rw[HD.out];rfl,HE,Sv.set c.A w (c.A+1) 0 _ (Or.inr rfl)⟩
def useF (K:Int):ByteArray :=
 if K=1 then ⟨#[78,69]⟩
 else if K=2 then ⟨#[78,69,70]⟩
 else if K=3 then ⟨#[69]⟩
 else if K=4 then ⟨#[]⟩
 else if K=5 then ⟨#[69]⟩
 else if K=6 then ⟨#[69,65,66]⟩
 else if K=7 then ⟨#[69,65]⟩
 else if K=8 then ⟨#[69]⟩
 else ⟨#[]⟩
def okF (K:Int):Bool:=decide (1≤K∧K≤8)
def usesN (K:Int):Bool:=decide (K=1∨K=2)
def hasE (K:Int):Bool:=!decide (K=4)
def hasF (K:Int):Bool:=decide (K=2)
def usesA (K:Int):Bool:=decide (K=6∨K=7)
def hasB (K:Int):Bool:=decide (K=6)
set_option maxHeartbeats 1000000 in
set_option maxRecDepth 100000 in
theorem indexByte73 (s:ByteArray) (c r:Int) (hr:Lib.indexByte s.data.toList c.toNat.toUInt8=r) (w:World):Calls Tryz.prog 227 #[.string s,.int .u8 c] w fun e w'=>e=.returned (.int .i64 r)∧w'=w:=by
 subst hr
 go_enter Tryz.func227,Tryz.ntmps227
 go_wp2
 rw[run_callFunc_extern Tryz.func249 (by kernel_rfl) (by kernel_rfl) (by kernel_rfl) (e:=Extern.BytealgIndexByte.indexByte) (by kernel_rfl),Lib.run_indexByteString]
 simp only[Result.andThen]
 rw[Oper.upon_value]
 go_wp2
 go_ret
 exact⟨rfl,rfl⟩
set_option maxHeartbeats 400000 in
theorem in_NE_N (p:Addr) (w:World) (h:w.cell? p=some (.string ⟨#[78,69]⟩)):Calls Tryz.prog 215 #[.string ⟨#[78]⟩,.pointer (some p)] w fun e w'=>e=.returned (.bool true)∧w'=w:=by
 go_enter Tryz.func215,Tryz.ntmps215
 go_wp2_with (first|(go_at_call 227;refine (indexByte73 _ _ (0) (by decide) _).mono ?_;rintro e w1 ⟨rfl,rfl⟩)|go_in)
 go_ret
 exact⟨rfl,rfl⟩
set_option maxHeartbeats 400000 in
theorem in_NE_E (p:Addr) (w:World) (h:w.cell? p=some (.string ⟨#[78,69]⟩)):Calls Tryz.prog 215 #[.string ⟨#[69]⟩,.pointer (some p)] w fun e w'=>e=.returned (.bool true)∧w'=w:=by
 go_enter Tryz.func215,Tryz.ntmps215
 go_wp2_with (first|(go_at_call 227;refine (indexByte73 _ _ (1) (by decide) _).mono ?_;rintro e w1 ⟨rfl,rfl⟩)|go_in)
 go_ret
 exact⟨rfl,rfl⟩
set_option maxHeartbeats 400000 in
theorem in_NE_F (p:Addr) (w:World) (h:w.cell? p=some (.string ⟨#[78,69]⟩)):Calls Tryz.prog 215 #[.string ⟨#[70]⟩,.pointer (some p)] w fun e w'=>e=.returned (.bool false)∧w'=w:=by
 go_enter Tryz.func215,Tryz.ntmps215
 go_wp2_with (first|(go_at_call 227;refine (indexByte73 _ _ (-1) (by decide) _).mono ?_;rintro e w1 ⟨rfl,rfl⟩)|go_in)
 go_ret
 exact⟨rfl,rfl⟩
set_option maxHeartbeats 400000 in
theorem in_NE_A (p:Addr) (w:World) (h:w.cell? p=some (.string ⟨#[78,69]⟩)):Calls Tryz.prog 215 #[.string ⟨#[65]⟩,.pointer (some p)] w fun e w'=>e=.returned (.bool false)∧w'=w:=by
 go_enter Tryz.func215,Tryz.ntmps215
 go_wp2_with (first|(go_at_call 227;refine (indexByte73 _ _ (-1) (by decide) _).mono ?_;rintro e w1 ⟨rfl,rfl⟩)|go_in)
 go_ret
 exact⟨rfl,rfl⟩
set_option maxHeartbeats 400000 in
theorem in_NE_B (p:Addr) (w:World) (h:w.cell? p=some (.string ⟨#[78,69]⟩)):Calls Tryz.prog 215 #[.string ⟨#[66]⟩,.pointer (some p)] w fun e w'=>e=.returned (.bool false)∧w'=w:=by
 go_enter Tryz.func215,Tryz.ntmps215
 go_wp2_with (first|(go_at_call 227;refine (indexByte73 _ _ (-1) (by decide) _).mono ?_;rintro e w1 ⟨rfl,rfl⟩)|go_in)
 go_ret
 exact⟨rfl,rfl⟩
set_option maxHeartbeats 400000 in
theorem in_NEF_N (p:Addr) (w:World) (h:w.cell? p=some (.string ⟨#[78,69,70]⟩)):Calls Tryz.prog 215 #[.string ⟨#[78]⟩,.pointer (some p)] w fun e w'=>e=.returned (.bool true)∧w'=w:=by
 go_enter Tryz.func215,Tryz.ntmps215
 go_wp2_with (first|(go_at_call 227;refine (indexByte73 _ _ (0) (by decide) _).mono ?_;rintro e w1 ⟨rfl,rfl⟩)|go_in)
 go_ret
 exact⟨rfl,rfl⟩
set_option maxHeartbeats 400000 in
theorem in_NEF_E (p:Addr) (w:World) (h:w.cell? p=some (.string ⟨#[78,69,70]⟩)):Calls Tryz.prog 215 #[.string ⟨#[69]⟩,.pointer (some p)] w fun e w'=>e=.returned (.bool true)∧w'=w:=by
 go_enter Tryz.func215,Tryz.ntmps215
 go_wp2_with (first|(go_at_call 227;refine (indexByte73 _ _ (1) (by decide) _).mono ?_;rintro e w1 ⟨rfl,rfl⟩)|go_in)
 go_ret
 exact⟨rfl,rfl⟩
set_option maxHeartbeats 400000 in
theorem in_NEF_F (p:Addr) (w:World) (h:w.cell? p=some (.string ⟨#[78,69,70]⟩)):Calls Tryz.prog 215 #[.string ⟨#[70]⟩,.pointer (some p)] w fun e w'=>e=.returned (.bool true)∧w'=w:=by
 go_enter Tryz.func215,Tryz.ntmps215
 go_wp2_with (first|(go_at_call 227;refine (indexByte73 _ _ (2) (by decide) _).mono ?_;rintro e w1 ⟨rfl,rfl⟩)|go_in)
 go_ret
 exact⟨rfl,rfl⟩
set_option maxHeartbeats 400000 in
theorem in_NEF_A (p:Addr) (w:World) (h:w.cell? p=some (.string ⟨#[78,69,70]⟩)):Calls Tryz.prog 215 #[.string ⟨#[65]⟩,.pointer (some p)] w fun e w'=>e=.returned (.bool false)∧w'=w:=by
 go_enter Tryz.func215,Tryz.ntmps215
 go_wp2_with (first|(go_at_call 227;refine (indexByte73 _ _ (-1) (by decide) _).mono ?_;rintro e w1 ⟨rfl,rfl⟩)|go_in)
 go_ret
 exact⟨rfl,rfl⟩
set_option maxHeartbeats 400000 in
theorem in_NEF_B (p:Addr) (w:World) (h:w.cell? p=some (.string ⟨#[78,69,70]⟩)):Calls Tryz.prog 215 #[.string ⟨#[66]⟩,.pointer (some p)] w fun e w'=>e=.returned (.bool false)∧w'=w:=by
 go_enter Tryz.func215,Tryz.ntmps215
 go_wp2_with (first|(go_at_call 227;refine (indexByte73 _ _ (-1) (by decide) _).mono ?_;rintro e w1 ⟨rfl,rfl⟩)|go_in)
 go_ret
 exact⟨rfl,rfl⟩
set_option maxHeartbeats 400000 in
theorem in_E_N (p:Addr) (w:World) (h:w.cell? p=some (.string ⟨#[69]⟩)):Calls Tryz.prog 215 #[.string ⟨#[78]⟩,.pointer (some p)] w fun e w'=>e=.returned (.bool false)∧w'=w:=by
 go_enter Tryz.func215,Tryz.ntmps215
 go_wp2_with (first|(go_at_call 227;refine (indexByte73 _ _ (-1) (by decide) _).mono ?_;rintro e w1 ⟨rfl,rfl⟩)|go_in)
 go_ret
 exact⟨rfl,rfl⟩
set_option maxHeartbeats 400000 in
theorem in_E_E (p:Addr) (w:World) (h:w.cell? p=some (.string ⟨#[69]⟩)):Calls Tryz.prog 215 #[.string ⟨#[69]⟩,.pointer (some p)] w fun e w'=>e=.returned (.bool true)∧w'=w:=by
 go_enter Tryz.func215,Tryz.ntmps215
 go_wp2_with (first|(go_at_call 227;refine (indexByte73 _ _ (0) (by decide) _).mono ?_;rintro e w1 ⟨rfl,rfl⟩)|go_in)
 go_ret
 exact⟨rfl,rfl⟩
set_option maxHeartbeats 400000 in
theorem in_E_F (p:Addr) (w:World) (h:w.cell? p=some (.string ⟨#[69]⟩)):Calls Tryz.prog 215 #[.string ⟨#[70]⟩,.pointer (some p)] w fun e w'=>e=.returned (.bool false)∧w'=w:=by
 go_enter Tryz.func215,Tryz.ntmps215
 go_wp2_with (first|(go_at_call 227;refine (indexByte73 _ _ (-1) (by decide) _).mono ?_;rintro e w1 ⟨rfl,rfl⟩)|go_in)
 go_ret
 exact⟨rfl,rfl⟩
set_option maxHeartbeats 400000 in
theorem in_E_A (p:Addr) (w:World) (h:w.cell? p=some (.string ⟨#[69]⟩)):Calls Tryz.prog 215 #[.string ⟨#[65]⟩,.pointer (some p)] w fun e w'=>e=.returned (.bool false)∧w'=w:=by
 go_enter Tryz.func215,Tryz.ntmps215
 go_wp2_with (first|(go_at_call 227;refine (indexByte73 _ _ (-1) (by decide) _).mono ?_;rintro e w1 ⟨rfl,rfl⟩)|go_in)
 go_ret
 exact⟨rfl,rfl⟩
set_option maxHeartbeats 400000 in
theorem in_E_B (p:Addr) (w:World) (h:w.cell? p=some (.string ⟨#[69]⟩)):Calls Tryz.prog 215 #[.string ⟨#[66]⟩,.pointer (some p)] w fun e w'=>e=.returned (.bool false)∧w'=w:=by
 go_enter Tryz.func215,Tryz.ntmps215
 go_wp2_with (first|(go_at_call 227;refine (indexByte73 _ _ (-1) (by decide) _).mono ?_;rintro e w1 ⟨rfl,rfl⟩)|go_in)
 go_ret
 exact⟨rfl,rfl⟩
set_option maxHeartbeats 400000 in
theorem in_none_N (p:Addr) (w:World) (h:w.cell? p=some (.string ⟨#[]⟩)):Calls Tryz.prog 215 #[.string ⟨#[78]⟩,.pointer (some p)] w fun e w'=>e=.returned (.bool false)∧w'=w:=by
 go_enter Tryz.func215,Tryz.ntmps215
 go_wp2_with (first|(go_at_call 227;refine (indexByte73 _ _ (-1) (by decide) _).mono ?_;rintro e w1 ⟨rfl,rfl⟩)|go_in)
 go_ret
 exact⟨rfl,rfl⟩
set_option maxHeartbeats 400000 in
theorem in_none_E (p:Addr) (w:World) (h:w.cell? p=some (.string ⟨#[]⟩)):Calls Tryz.prog 215 #[.string ⟨#[69]⟩,.pointer (some p)] w fun e w'=>e=.returned (.bool false)∧w'=w:=by
 go_enter Tryz.func215,Tryz.ntmps215
 go_wp2_with (first|(go_at_call 227;refine (indexByte73 _ _ (-1) (by decide) _).mono ?_;rintro e w1 ⟨rfl,rfl⟩)|go_in)
 go_ret
 exact⟨rfl,rfl⟩
set_option maxHeartbeats 400000 in
theorem in_none_F (p:Addr) (w:World) (h:w.cell? p=some (.string ⟨#[]⟩)):Calls Tryz.prog 215 #[.string ⟨#[70]⟩,.pointer (some p)] w fun e w'=>e=.returned (.bool false)∧w'=w:=by
 go_enter Tryz.func215,Tryz.ntmps215
 go_wp2_with (first|(go_at_call 227;refine (indexByte73 _ _ (-1) (by decide) _).mono ?_;rintro e w1 ⟨rfl,rfl⟩)|go_in)
 go_ret
 exact⟨rfl,rfl⟩
set_option maxHeartbeats 400000 in
theorem in_none_A (p:Addr) (w:World) (h:w.cell? p=some (.string ⟨#[]⟩)):Calls Tryz.prog 215 #[.string ⟨#[65]⟩,.pointer (some p)] w fun e w'=>e=.returned (.bool false)∧w'=w:=by
 go_enter Tryz.func215,Tryz.ntmps215
 go_wp2_with (first|(go_at_call 227;refine (indexByte73 _ _ (-1) (by decide) _).mono ?_;rintro e w1 ⟨rfl,rfl⟩)|go_in)
 go_ret
 exact⟨rfl,rfl⟩
set_option maxHeartbeats 400000 in
theorem in_none_B (p:Addr) (w:World) (h:w.cell? p=some (.string ⟨#[]⟩)):Calls Tryz.prog 215 #[.string ⟨#[66]⟩,.pointer (some p)] w fun e w'=>e=.returned (.bool false)∧w'=w:=by
 go_enter Tryz.func215,Tryz.ntmps215
 go_wp2_with (first|(go_at_call 227;refine (indexByte73 _ _ (-1) (by decide) _).mono ?_;rintro e w1 ⟨rfl,rfl⟩)|go_in)
 go_ret
 exact⟨rfl,rfl⟩
set_option maxHeartbeats 400000 in
theorem in_EAB_N (p:Addr) (w:World) (h:w.cell? p=some (.string ⟨#[69,65,66]⟩)):Calls Tryz.prog 215 #[.string ⟨#[78]⟩,.pointer (some p)] w fun e w'=>e=.returned (.bool false)∧w'=w:=by
 go_enter Tryz.func215,Tryz.ntmps215
 go_wp2_with (first|(go_at_call 227;refine (indexByte73 _ _ (-1) (by decide) _).mono ?_;rintro e w1 ⟨rfl,rfl⟩)|go_in)
 go_ret
 exact⟨rfl,rfl⟩
set_option maxHeartbeats 400000 in
theorem in_EAB_E (p:Addr) (w:World) (h:w.cell? p=some (.string ⟨#[69,65,66]⟩)):Calls Tryz.prog 215 #[.string ⟨#[69]⟩,.pointer (some p)] w fun e w'=>e=.returned (.bool true)∧w'=w:=by
 go_enter Tryz.func215,Tryz.ntmps215
 go_wp2_with (first|(go_at_call 227;refine (indexByte73 _ _ (0) (by decide) _).mono ?_;rintro e w1 ⟨rfl,rfl⟩)|go_in)
 go_ret
 exact⟨rfl,rfl⟩
set_option maxHeartbeats 400000 in
theorem in_EAB_F (p:Addr) (w:World) (h:w.cell? p=some (.string ⟨#[69,65,66]⟩)):Calls Tryz.prog 215 #[.string ⟨#[70]⟩,.pointer (some p)] w fun e w'=>e=.returned (.bool false)∧w'=w:=by
 go_enter Tryz.func215,Tryz.ntmps215
 go_wp2_with (first|(go_at_call 227;refine (indexByte73 _ _ (-1) (by decide) _).mono ?_;rintro e w1 ⟨rfl,rfl⟩)|go_in)
 go_ret
 exact⟨rfl,rfl⟩
set_option maxHeartbeats 400000 in
theorem in_EAB_A (p:Addr) (w:World) (h:w.cell? p=some (.string ⟨#[69,65,66]⟩)):Calls Tryz.prog 215 #[.string ⟨#[65]⟩,.pointer (some p)] w fun e w'=>e=.returned (.bool true)∧w'=w:=by
 go_enter Tryz.func215,Tryz.ntmps215
 go_wp2_with (first|(go_at_call 227;refine (indexByte73 _ _ (1) (by decide) _).mono ?_;rintro e w1 ⟨rfl,rfl⟩)|go_in)
 go_ret
 exact⟨rfl,rfl⟩
set_option maxHeartbeats 400000 in
theorem in_EAB_B (p:Addr) (w:World) (h:w.cell? p=some (.string ⟨#[69,65,66]⟩)):Calls Tryz.prog 215 #[.string ⟨#[66]⟩,.pointer (some p)] w fun e w'=>e=.returned (.bool true)∧w'=w:=by
 go_enter Tryz.func215,Tryz.ntmps215
 go_wp2_with (first|(go_at_call 227;refine (indexByte73 _ _ (2) (by decide) _).mono ?_;rintro e w1 ⟨rfl,rfl⟩)|go_in)
 go_ret
 exact⟨rfl,rfl⟩
set_option maxHeartbeats 400000 in
theorem in_EA_N (p:Addr) (w:World) (h:w.cell? p=some (.string ⟨#[69,65]⟩)):Calls Tryz.prog 215 #[.string ⟨#[78]⟩,.pointer (some p)] w fun e w'=>e=.returned (.bool false)∧w'=w:=by
 go_enter Tryz.func215,Tryz.ntmps215
 go_wp2_with (first|(go_at_call 227;refine (indexByte73 _ _ (-1) (by decide) _).mono ?_;rintro e w1 ⟨rfl,rfl⟩)|go_in)
 go_ret
 exact⟨rfl,rfl⟩
set_option maxHeartbeats 400000 in
theorem in_EA_E (p:Addr) (w:World) (h:w.cell? p=some (.string ⟨#[69,65]⟩)):Calls Tryz.prog 215 #[.string ⟨#[69]⟩,.pointer (some p)] w fun e w'=>e=.returned (.bool true)∧w'=w:=by
 go_enter Tryz.func215,Tryz.ntmps215
 go_wp2_with (first|(go_at_call 227;refine (indexByte73 _ _ (0) (by decide) _).mono ?_;rintro e w1 ⟨rfl,rfl⟩)|go_in)
 go_ret
 exact⟨rfl,rfl⟩
set_option maxHeartbeats 400000 in
theorem in_EA_F (p:Addr) (w:World) (h:w.cell? p=some (.string ⟨#[69,65]⟩)):Calls Tryz.prog 215 #[.string ⟨#[70]⟩,.pointer (some p)] w fun e w'=>e=.returned (.bool false)∧w'=w:=by
 go_enter Tryz.func215,Tryz.ntmps215
 go_wp2_with (first|(go_at_call 227;refine (indexByte73 _ _ (-1) (by decide) _).mono ?_;rintro e w1 ⟨rfl,rfl⟩)|go_in)
 go_ret
 exact⟨rfl,rfl⟩
set_option maxHeartbeats 400000 in
theorem in_EA_A (p:Addr) (w:World) (h:w.cell? p=some (.string ⟨#[69,65]⟩)):Calls Tryz.prog 215 #[.string ⟨#[65]⟩,.pointer (some p)] w fun e w'=>e=.returned (.bool true)∧w'=w:=by
 go_enter Tryz.func215,Tryz.ntmps215
 go_wp2_with (first|(go_at_call 227;refine (indexByte73 _ _ (1) (by decide) _).mono ?_;rintro e w1 ⟨rfl,rfl⟩)|go_in)
 go_ret
 exact⟨rfl,rfl⟩
set_option maxHeartbeats 400000 in
theorem in_EA_B (p:Addr) (w:World) (h:w.cell? p=some (.string ⟨#[69,65]⟩)):Calls Tryz.prog 215 #[.string ⟨#[66]⟩,.pointer (some p)] w fun e w'=>e=.returned (.bool false)∧w'=w:=by
 go_enter Tryz.func215,Tryz.ntmps215
 go_wp2_with (first|(go_at_call 227;refine (indexByte73 _ _ (-1) (by decide) _).mono ?_;rintro e w1 ⟨rfl,rfl⟩)|go_in)
 go_ret
 exact⟨rfl,rfl⟩
theorem hasC_N (K:Int) (hK:okF K=true) (p:Addr) (w:World) (h:w.cell? p=some (.string (useF K))):Calls Tryz.prog 215 #[.string ⟨#[78]⟩,.pointer (some p)] w fun e w'=>e=.returned (.bool (usesN K))∧w'=w:=by
 have hk:1≤K∧K≤8:=of_decide_eq_true hK
 rcases (show K=1∨K=2∨K=3∨K=4∨K=5∨K=6∨K=7∨K=8 by omega) with rfl|rfl|rfl|rfl|rfl|rfl|rfl|rfl
 ·exact in_NE_N p w h
 ·exact in_NEF_N p w h
 ·exact in_E_N p w h
 ·exact in_none_N p w h
 ·exact in_E_N p w h
 ·exact in_EAB_N p w h
 ·exact in_EA_N p w h
 ·exact in_E_N p w h
theorem hasC_E (K:Int) (hK:okF K=true) (p:Addr) (w:World) (h:w.cell? p=some (.string (useF K))):Calls Tryz.prog 215 #[.string ⟨#[69]⟩,.pointer (some p)] w fun e w'=>e=.returned (.bool (hasE K))∧w'=w:=by
 have hk:1≤K∧K≤8:=of_decide_eq_true hK
 rcases (show K=1∨K=2∨K=3∨K=4∨K=5∨K=6∨K=7∨K=8 by omega) with rfl|rfl|rfl|rfl|rfl|rfl|rfl|rfl
 ·exact in_NE_E p w h
 ·exact in_NEF_E p w h
 ·exact in_E_E p w h
 ·exact in_none_E p w h
 ·exact in_E_E p w h
 ·exact in_EAB_E p w h
 ·exact in_EA_E p w h
 ·exact in_E_E p w h
theorem hasC_F (K:Int) (hK:okF K=true) (p:Addr) (w:World) (h:w.cell? p=some (.string (useF K))):Calls Tryz.prog 215 #[.string ⟨#[70]⟩,.pointer (some p)] w fun e w'=>e=.returned (.bool (hasF K))∧w'=w:=by
 have hk:1≤K∧K≤8:=of_decide_eq_true hK
 rcases (show K=1∨K=2∨K=3∨K=4∨K=5∨K=6∨K=7∨K=8 by omega) with rfl|rfl|rfl|rfl|rfl|rfl|rfl|rfl
 ·exact in_NE_F p w h
 ·exact in_NEF_F p w h
 ·exact in_E_F p w h
 ·exact in_none_F p w h
 ·exact in_E_F p w h
 ·exact in_EAB_F p w h
 ·exact in_EA_F p w h
 ·exact in_E_F p w h
theorem hasC_A (K:Int) (hK:okF K=true) (p:Addr) (w:World) (h:w.cell? p=some (.string (useF K))):Calls Tryz.prog 215 #[.string ⟨#[65]⟩,.pointer (some p)] w fun e w'=>e=.returned (.bool (usesA K))∧w'=w:=by
 have hk:1≤K∧K≤8:=of_decide_eq_true hK
 rcases (show K=1∨K=2∨K=3∨K=4∨K=5∨K=6∨K=7∨K=8 by omega) with rfl|rfl|rfl|rfl|rfl|rfl|rfl|rfl
 ·exact in_NE_A p w h
 ·exact in_NEF_A p w h
 ·exact in_E_A p w h
 ·exact in_none_A p w h
 ·exact in_E_A p w h
 ·exact in_EAB_A p w h
 ·exact in_EA_A p w h
 ·exact in_E_A p w h
theorem hasC_B (K:Int) (hK:okF K=true) (p:Addr) (w:World) (h:w.cell? p=some (.string (useF K))):Calls Tryz.prog 215 #[.string ⟨#[66]⟩,.pointer (some p)] w fun e w'=>e=.returned (.bool (hasB K))∧w'=w:=by
 have hk:1≤K∧K≤8:=of_decide_eq_true hK
 rcases (show K=1∨K=2∨K=3∨K=4∨K=5∨K=6∨K=7∨K=8 by omega) with rfl|rfl|rfl|rfl|rfl|rfl|rfl|rfl
 ·exact in_NE_B p w h
 ·exact in_NEF_B p w h
 ·exact in_E_B p w h
 ·exact in_none_B p w h
 ·exact in_E_B p w h
 ·exact in_EAB_B p w h
 ·exact in_EA_B p w h
 ·exact in_E_B p w h
def hasS (c:ByteArray) (K:Int):Bool :=
 match c.data.toList with
 | [78]=>usesN K
 | [69]=>hasE K
 | [70]=>hasF K
 | [65]=>usesA K
 | [66]=>hasB K
 | _=>false
theorem hasC (c:ByteArray) (hc:c.data.toList=[78]∨c.data.toList=[69]∨c.data.toList=[70]∨c.data.toList=[65]∨c.data.toList=[66]) (K:Int) (hK:okF K=true) (p:Addr) (w:World) (h:w.cell? p=some (.string (useF K))):Calls Tryz.prog 215 #[.string c,.pointer (some p)] w fun e w'=>e=.returned (.bool (hasS c K))∧w'=w:=by
 have key:∀l:List UInt8,c.data.toList=l→c=⟨⟨l⟩⟩:=fun l e=>ByteArray.ext (Array.toList_inj.1 e)
 rcases hc with e|e|e|e|e
 ·rw[key _ e];exact hasC_N K hK p w h
 ·rw[key _ e];exact hasC_E K hK p w h
 ·rw[key _ e];exact hasC_F K hK p w h
 ·rw[key _ e];exact hasC_A K hK p w h
 ·rw[key _ e];exact hasC_B K hK p w h
end
end Go.Proofs.YtfaokaohhchdhaaGreatDoor
