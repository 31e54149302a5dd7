/- The table of what each kind of statement has a use for, as a map: what a look into it tells. -/
import Derived.Test.YtfaokaohhchdhaaGreatDoorPart34
import Derived.Maps.RangeWalk
namespace Go.Proofs.YtfaokaohhchdhaaGreatDoor
open Go.RowKit Go.Maps
def TabIs (w:World) (b n:Nat) (f:Int→ByteArray) (g:Int→Bool):Prop :=
 ∃D:DataW Unit,w.ownsMap Tryz.prog 3 (plainElem Tryz.prog 9) b n D∧(∀x:Int,D.atKey (.int .i64 x) (.lit (.string []))=.lit (.string (f x).data.toList))∧(∀x:Int,Maps.has D (.int .i64 x)=g x)
theorem law3:Keyed Tryz.prog 3:=int_keyed Tryz.underlying3
theorem zero9 (w:World):(zeroValue 9).run Tryz.prog w=.ok (.string ⟨#[]⟩) w:=by kernel_rfl
theorem under93:Tryz.prog.underlying 147=some (.map 3 9):=by kernel_rfl
theorem TabIs.made (w:World):TabIs (w.alloc (.map #[] 0)) w.heap.size 0 (fun _=>⟨#[]⟩) (fun _=>false) :=
 ⟨.map [],World.ownsMap_made _ _ _ _,fun _=>rfl,fun _=>rfl⟩
theorem ins_step {ops:Array Oper} {rest:List Oper} {o:Oper} {a:Act} {Q:Exit→Act→World→Prop} (w:World) (hg:o.guard=none) (hd:o.dst=none) (m:Operand) (key:Int) (s:ByteArray) (hop:o.op=Op.insert 147 m (.const (.int .i64 key)) (.const (.string s)))
  (b n:Nat) (f:Int→ByteArray) (g:Int→Bool) (hm:a.eval m=.map (some b)) (hown:TabIs w b n f g) (hn:n<maxLen) (hwf:(Lit.int .i64 key).wf=true) (hs:s.size≤maxLen)
  (hK:∀w',TabIs w' b (n+1) (fun y=>if y=key then s else f y) (fun y=>decide (y=key) || g y)→w.grownBy w' (some b)→wpList Tryz.prog ops Q rest a w'):wpList Tryz.prog ops Q (o::rest) a w:=by
 refine wpList_plain hg fun K' hK'=>?_
 obtain⟨D,hD,hat,hhas⟩:=hown
 obtain⟨w',hrun,r1,r2⟩:=hD.update law3 under93 hn (keyOf_int_mk Tryz.underlying3 hwf) (plainElem_string (H:=Unit) Tryz.underlying9 hs)
 have hput:a.put o.dst undef=a:=by rw[hd];rfl
 unfold Oper.wp
 have e1:a.eval (.const (.int .i64 key))=.int .i64 key:=rfl
 have e2:a.eval (.const (.string s))=.string s:=rfl
 simp[execOp,hop,hm,e1,e2,hrun,Result.andThen]
 rw[←hput]at hK
 refine hK' _ _ (hK w' ⟨_,r1,fun y=>?_,fun y=>?_⟩ r2)
 ·by_cases e:y=key
  ·subst e
   rw[atKey_put_same (k:=Lit.int .i64 y) hD.isMap trivial]
   simp
  ·rw[atKey_put_other (fun h=>e (by cases h;rfl)),hat]
   simp[e]
 ·by_cases e:y=key
  ·subst e
   rw[has_put_same (k:=Lit.int .i64 y) hD.isMap trivial]
   simp
  ·rw[has_put_other (fun h=>e (by cases h;rfl)),hhas]
   simp[e]
theorem TabIs.same {w:World} {b n:Nat} {f f':Int→ByteArray} {g g':Int→Bool} (h:TabIs w b n f g) (hf:∀x,f x=f' x) (hg:∀x,g x=g' x):TabIs w b n f' g':=by
 obtain⟨D,h,h1,h2⟩:=h
 exact⟨D,h,fun x=>by rw[h1,hf],fun x=>by rw[h2,hg]⟩
theorem grown_more {a b c:World} {k:Nat} (h:a.grownBy b (some k)) (h2:b.grownBy c (some k)):a.grownBy c (some k) :=
 ⟨h2.os.trans h.os,h2.tape.trans h.tape,h2.output.trans h.output,Nat.le_trans h.size h2.size,fun i hi hk=>(h2.block i (Nat.lt_of_lt_of_le hi h.size) hk).trans (h.block i hi hk)⟩
theorem use_map {ops:Array Oper} {rest:List Oper} {o1 o2 o3 o4 o5 o6 o7 o8:Oper} {a:Act} {Q:Exit→Act→World→Prop} (w:World) (m:Operand)
  (g1:o1.guard=none) (d1:o1.dst=none) (p1:o1.op=Op.insert 147 m (.const (.int .i64 1)) (.const (.string ⟨#[78,69]⟩)))
  (g2:o2.guard=none) (d2:o2.dst=none) (p2:o2.op=Op.insert 147 m (.const (.int .i64 2)) (.const (.string ⟨#[78,69,70]⟩)))
  (g3:o3.guard=none) (d3:o3.dst=none) (p3:o3.op=Op.insert 147 m (.const (.int .i64 3)) (.const (.string ⟨#[69]⟩)))
  (g4:o4.guard=none) (d4:o4.dst=none) (p4:o4.op=Op.insert 147 m (.const (.int .i64 4)) (.const (.string ⟨#[]⟩)))
  (g5:o5.guard=none) (d5:o5.dst=none) (p5:o5.op=Op.insert 147 m (.const (.int .i64 5)) (.const (.string ⟨#[69]⟩)))
  (g6:o6.guard=none) (d6:o6.dst=none) (p6:o6.op=Op.insert 147 m (.const (.int .i64 6)) (.const (.string ⟨#[69,65,66]⟩)))
  (g7:o7.guard=none) (d7:o7.dst=none) (p7:o7.op=Op.insert 147 m (.const (.int .i64 7)) (.const (.string ⟨#[69,65]⟩)))
  (g8:o8.guard=none) (d8:o8.dst=none) (p8:o8.op=Op.insert 147 m (.const (.int .i64 8)) (.const (.string ⟨#[69]⟩)))
  (b:Nat) (hm:a.eval m=.map (some b)) (hB:w.heap.size=b)
  (hK:∀w',TabIs w' b 8 useF okF→(w.alloc (.map #[] 0)).grownBy w' (some b)→wpList Tryz.prog ops Q rest a w'):wpList Tryz.prog ops Q (o1::o2::o3::o4::o5::o6::o7::o8::rest) a (w.alloc (.map #[] 0)):=by
 have hown:=TabIs.made w
 rw[hB]at hown
 refine ins_step _ g1 d1 m 1 _ p1 b 0 _ _ hm hown (by decide) (by decide) (by decide) fun w1 h1 e1=>?_
 refine ins_step _ g2 d2 m 2 _ p2 b 1 _ _ hm h1 (by decide) (by decide) (by decide) fun w2 h2 e2=>?_
 refine ins_step _ g3 d3 m 3 _ p3 b 2 _ _ hm h2 (by decide) (by decide) (by decide) fun w3 h3 e3=>?_
 refine ins_step _ g4 d4 m 4 _ p4 b 3 _ _ hm h3 (by decide) (by decide) (by decide) fun w4 h4 e4=>?_
 refine ins_step _ g5 d5 m 5 _ p5 b 4 _ _ hm h4 (by decide) (by decide) (by decide) fun w5 h5 e5=>?_
 refine ins_step _ g6 d6 m 6 _ p6 b 5 _ _ hm h5 (by decide) (by decide) (by decide) fun w6 h6 e6=>?_
 refine ins_step _ g7 d7 m 7 _ p7 b 6 _ _ hm h6 (by decide) (by decide) (by decide) fun w7 h7 e7=>?_
 refine ins_step _ g8 d8 m 8 _ p8 b 7 _ _ hm h7 (by decide) (by decide) (by decide) fun w8 h8 e8=>?_
 refine hK w8 (h8.same (fun x=>?_) (fun x=>?_)) (grown_more (grown_more (grown_more (grown_more (grown_more (grown_more (grown_more e1 e2) e3) e4) e5) e6) e7) e8)
 ·unfold useF
  by_cases x1:x=1
  ·subst x1;rfl
  by_cases x2:x=2
  ·subst x2;rfl
  by_cases x3:x=3
  ·subst x3;rfl
  by_cases x4:x=4
  ·subst x4;rfl
  by_cases x5:x=5
  ·subst x5;rfl
  by_cases x6:x=6
  ·subst x6;rfl
  by_cases x7:x=7
  ·subst x7;rfl
  by_cases x8:x=8
  ·subst x8;rfl
  simp[x1,x2,x3,x4,x5,x6,x7,x8]
 ·unfold okF
  by_cases hx:1≤x∧x≤8
  ·rcases (show x=1∨x=2∨x=3∨x=4∨x=5∨x=6∨x=7∨x=8 by omega) with rfl|rfl|rfl|rfl|rfl|rfl|rfl|rfl<;>rfl
  ·have x1:¬x=1:=by omega
   have x2:¬x=2:=by omega
   have x3:¬x=3:=by omega
   have x4:¬x=4:=by omega
   have x5:¬x=5:=by omega
   have x6:¬x=6:=by omega
   have x7:¬x=7:=by omega
   have x8:¬x=8:=by omega
   simp[x1,x2,x3,x4,x5,x6,x7,x8,hx]
theorem look_use {ops:Array Oper} {rest:List Oper} {o:Oper} {a:Act} {Q:Exit→Act→World→Prop} (w:World) (hg:o.guard=none) (m x:Operand) (hop:o.op=Op.lookup 147 m x true)
  (b n:Nat) (hm:a.eval m=.map (some b)) (hown:TabIs w b n useF okF) (key:Int) (hx:a.eval x=.int .i64 key) (hwf:(Lit.int .i64 key).wf=true)
  (hK:wpList Tryz.prog ops Q rest (a.put o.dst (.tuple #[.string (useF key),.bool (okF key)])) w):wpList Tryz.prog ops Q (o::rest) a w:=by
 obtain⟨D,hD,hat,hhas⟩:=hown
 refine wpList_lookup_own_ok w hg m x 147 hop 3 9 law3 under93 (plainElem Tryz.prog 9) (zero9 w) (.lit (.string [])) [] (plainElem_string (H:=Unit) Tryz.underlying9 (s:=⟨#[]⟩) (by decide)) b n D hm hD _ _ hx (keyOf_int_mk Tryz.underlying3 hwf) ?_
 intro v ps hv
 obtain⟨s,rfl,hs⟩:=plainElem_string_inv Tryz.underlying9 hv
 rw[hhas]
 have e:s=useF key:=by
  rw[hat]at hs
  have h1:(useF key).data.toList=s.data.toList:=by simpa using (congrArg Prod.fst hs.1)
  exact (ByteArray.ext (Array.toList_inj.1 h1)).symm
 rw[e]
 exact hK
def numK (x:Int):Bool:=decide (x=1∨x=2∨x=4∨x=5∨x=6)
def markF (x:Int):ByteArray:=bs (mkL x.toNat)
theorem numK_iff {x:Int}:numK x=true ↔ x=1∨x=2∨x=4∨x=5∨x=6:=by unfold numK;exact decide_eq_true_iff
theorem numK_mem {x:Int} (h:numK x=true):x.toNat ∈ numKinds∧(x.toNat:Int)=x:=by
 rcases numK_iff.1 h with rfl|rfl|rfl|rfl|rfl<;>exact⟨by decide,rfl⟩
theorem numKinds_K {k:Nat} (h:k ∈ numKinds):numK (k:Int)=true:=by
 simp only[numKinds,List.mem_cons,List.not_mem_nil,or_false]at h
 rcases h with rfl|rfl|rfl|rfl|rfl<;>decide
theorem markF_other {x:Int} (h2:¬x=2) (h4:¬x=4) (h5:¬x=5) (h6:¬x=6):markF x=⟨#[]⟩:=by
 unfold markF
 have:mkL x.toNat=[]:=by
  unfold mkL
  split<;>first|omega|rfl
 rw[this];rfl
theorem five_map {ops:Array Oper} {rest:List Oper} {o1 o2 o3 o4 o5:Oper} {a:Act} {Q:Exit→Act→World→Prop} (w:World) (m:Operand)
  (g1:o1.guard=none) (d1:o1.dst=none) (p1:o1.op=Op.insert 147 m (.const (.int .i64 2)) (.const (.string ⟨#[118]⟩)))
  (g2:o2.guard=none) (d2:o2.dst=none) (p2:o2.op=Op.insert 147 m (.const (.int .i64 4)) (.const (.string ⟨#[46]⟩)))
  (g3:o3.guard=none) (d3:o3.dst=none) (p3:o3.op=Op.insert 147 m (.const (.int .i64 5)) (.const (.string ⟨#[110,101,119]⟩)))
  (g4:o4.guard=none) (d4:o4.dst=none) (p4:o4.op=Op.insert 147 m (.const (.int .i64 6)) (.const (.string ⟨#[102]⟩)))
  (g5:o5.guard=none) (d5:o5.dst=none) (p5:o5.op=Op.insert 147 m (.const (.int .i64 1)) (.const (.string ⟨#[]⟩)))
  (b:Nat) (hm:a.eval m=.map (some b)) (hB:w.heap.size=b)
  (hK:∀w',TabIs w' b 5 markF numK→(w.alloc (.map #[] 0)).grownBy w' (some b)→wpList Tryz.prog ops Q rest a w'):wpList Tryz.prog ops Q (o1::o2::o3::o4::o5::rest) a (w.alloc (.map #[] 0)):=by
 have hown:=TabIs.made w
 rw[hB]at hown
 refine ins_step _ g1 d1 m 2 _ p1 b 0 _ _ hm hown (by decide) (by decide) (by decide) fun w1 h1 e1=>?_
 refine ins_step _ g2 d2 m 4 _ p2 b 1 _ _ hm h1 (by decide) (by decide) (by decide) fun w2 h2 e2=>?_
 refine ins_step _ g3 d3 m 5 _ p3 b 2 _ _ hm h2 (by decide) (by decide) (by decide) fun w3 h3 e3=>?_
 refine ins_step _ g4 d4 m 6 _ p4 b 3 _ _ hm h3 (by decide) (by decide) (by decide) fun w4 h4 e4=>?_
 refine ins_step _ g5 d5 m 1 _ p5 b 4 _ _ hm h4 (by decide) (by decide) (by decide) fun w5 h5 e5=>?_
 refine hK w5 (h5.same (fun x=>?_) (fun x=>?_)) (grown_more (grown_more (grown_more (grown_more e1 e2) e3) e4) e5)
 ·by_cases x1:x=1
  ·subst x1;rfl
  by_cases x2:x=2
  ·subst x2;rfl
  by_cases x4:x=4
  ·subst x4;rfl
  by_cases x5:x=5
  ·subst x5;rfl
  by_cases x6:x=6
  ·subst x6;rfl
  rw[markF_other x2 x4 x5 x6]
  simp[x1,x2,x4,x5,x6]
 ·unfold numK
  by_cases x1:x=1
  ·subst x1;rfl
  by_cases x2:x=2
  ·subst x2;rfl
  by_cases x4:x=4
  ·subst x4;rfl
  by_cases x5:x=5
  ·subst x5;rfl
  by_cases x6:x=6
  ·subst x6;rfl
  simp[x1,x2,x4,x5,x6]
def Rg (w:World) (b r:Nat) (left:Int→Bool) (cnt:Nat):Prop :=
 ∃(D:DataW Unit) (L:Lit→Bool),w.ranges Tryz.prog 3 (plainElem Tryz.prog 9) b r 5 D L cnt∧(∀x:Int,L (.int .i64 x)=left x)∧(∀x:Int,D.atKey (.int .i64 x) (.lit (.string []))=.lit (.string (markF x).data.toList))∧∀x:Int,left x=true→numK x=true
theorem Rg.left_eq {w:World} {b r:Nat} {left:Int→Bool} {cnt:Nat} (h:Rg w b r left cnt):w.rangeLeft b r=cnt:=by
 obtain⟨D,L,h,_⟩:=h
 exact h.left_eq
theorem Rg.lt {w:World} {b r:Nat} {left:Int→Bool} {cnt:Nat} (h:Rg w b r left cnt):b<w.heap.size∧r<w.heap.size:=by
 obtain⟨D,L,h,_⟩:=h
 exact⟨h.owns.lt,h.lt⟩
theorem Rg.kept {w w':World} {b r:Nat} {left:Int→Bool} {cnt:Nat} (h:Rg w b r left cnt) {X:Nat} (s:Save X w w') (hb:¬b=X) (hr:¬r=X):Rg w' b r left cnt:=by
 obtain⟨D,L,h,h2⟩:=h
 exact⟨D,L,h.kept (row:=some X) ⟨s.os,s.tape,s.output,s.size,fun k hk hx=>s.block k hk (fun e=>hx (by rw[e]))⟩ (fun e=>hb (Option.some.inj e)) (fun e=>hr (Option.some.inj e)),h2⟩
theorem Rg.keep {w w':World} {b r:Nat} {left:Int→Bool} {cnt:Nat} (h:Rg w b r left cnt) (hb:Below w.heap.size w w'):Rg w' b r left cnt:=by
 obtain⟨D,L,h,h2⟩:=h
 exact⟨D,L,h.kept (row:=none) ⟨hb.os,hb.tape,hb.output,hb.size,fun k hk _=>hb.block k hk⟩ (by simp) (by simp),h2⟩
theorem range_five {ops:Array Oper} {rest:List Oper} {o:Oper} {a:Act} {Q:Exit→Act→World→Prop} (w:World) (hg:o.guard=none) (m:Operand) (hop:o.op=Op.range 147 m) (b:Nat) (hm:a.eval m=.map (some b)) (hown:TabIs w b 5 markF numK)
  (hK:∀w' cnt,Rg w' b w.heap.size numK cnt→Below w.heap.size w w'→wpList Tryz.prog ops Q rest (a.put o.dst (.pointer (some ⟨w.heap.size,0,none⟩))) w'):wpList Tryz.prog ops Q (o::rest) a w:=by
 obtain⟨D,hD,hat,hhas⟩:=hown
 refine wpList_range_own w hg m 147 hop 3 9 law3 under93 _ b 5 D hm hD ?_
 intro w' h1 h2 _
 exact hK w' _ ⟨D,_,h1,hhas,hat,fun x hx=>hx⟩ ⟨h2.os,h2.tape,h2.output,h2.size,fun k hk=>h2.block k hk (by simp)⟩
theorem next_five {ops:Array Oper} {rest:List Oper} {o:Oper} {a:Act} {Q:Exit→Act→World→Prop} (w:World) (hg:o.guard=none) (it:Operand) (hop:o.op=Op.next it false) (b r:Nat) (left:Int→Bool) (cnt:Nat)
  (hit:a.eval it=.pointer (some ⟨r,0,none⟩)) (h:Rg w b r left cnt)
  (hDone:Hid (∀x,left x=false)→wpList Tryz.prog ops Q rest (a.put o.dst (.tuple #[.bool false])) w)
  (hMore:∀(x:Int) (w':World) (cnt':Nat),Hid (numK x=true)→Hid (Rg w' b r (fun y=>left y && !decide (y=x)) cnt')→Hid (cnt'<cnt)→Save r w w'→(Instr.entry (.pointer (some ⟨r,0,none⟩))).run Tryz.prog w'=.ok (.tuple #[.int .i64 x,.string (markF x)]) w' →
   wpList Tryz.prog ops Q rest (a.put o.dst (.tuple #[.bool true,.int .i64 x,.string (markF x)])) w') :
  wpList Tryz.prog ops Q (o::rest) a w:=by
 obtain⟨D,L,hr,hL,hat,hn⟩:=h
 refine wpList_next_ranges w hg it hop 3 law3 (plainElem Tryz.prog 9) (Value.int .i64) Value.string (fun key kl hkey=>by obtain⟨x,rfl,_⟩:=Maps.keyOf_int_inv Tryz.underlying3 hkey;exact⟨x,rfl⟩) (fun v y hv=>by obtain⟨c,rfl,_⟩:=plainElem_string_inv Tryz.underlying9 hv;exact⟨c,rfl⟩) b r 5 D L cnt hit hr ?_ ?_
 ·intro _ h0
  exact hDone fun x=>by rw[←hL];exact h0 _
 ·intro x c kl y w' cnt' hkey hlk hv hat' hrg hlt hgr hsz hen
  obtain⟨x',ex,rfl,_⟩:=Maps.keyOf_int_inv Tryz.underlying3 hkey
  cases ex
  obtain⟨c',ec,rfl,_⟩:=plainElem_string_inv Tryz.underlying9 hv
  cases ec
  have e:c=markF x:=by
   have h1:=hat' (.lit (.string []))
   rw[hat x]at h1
   have h2:(markF x).data.toList=c.data.toList:=by simpa using h1
   exact (ByteArray.ext (Array.toList_inj.1 h2)).symm
  subst e
  have hlx:left x=true:=by rw[←hL];exact hlk
  refine hMore x w' cnt' (hn x hlx) ⟨D,_,hrg,fun y=>?_,hat,fun y hy=>?_⟩ hlt ⟨hgr.os,hgr.tape,hgr.output,hgr.size,fun k hk hx=>hgr.block k hk (fun e=>hx (Option.some.inj e))⟩ hen
  ·have es:(Lit.int .i64 y).sameKey (.int .i64 x)=decide (y=x):=by
    by_cases e:y=x
    ·subst e;simp[Lit.sameKey]
    ·simp[Lit.sameKey,e]
   show (L (.int .i64 y) && !(Lit.int .i64 y).sameKey (.int .i64 x))=_
   rw[hL,es]
  ·simp only[Bool.and_eq_true]at hy
   exact hn y hy.1
theorem atoiE (N:Nat) (s:Wd) (hs:s.size≤1000000) (w:World) (he:Env N w) :
  Calls Tryz.prog 142 #[.string s] w fun e w'=>((∃v,e=.returned (.tuple #[.int .i64 v,.nilIface])∧Hid (Lib.atoiAll s.data.toList=.ok v))∨(∃v g,e=.returned (.tuple #[.int .i64 v,.iface 255 (.pointer (some ⟨g,0,none⟩))])∧Hid (∀u,¬Lib.atoiAll s.data.toList=.ok u)))∧Below w.heap.size w w':=by
 cases h:Lib.atoiAll s.data.toList with
 | ok v =>
  refine (Tryz.strconv_Atoi_ok s (by omega) v h w).mono ?_
  rintro e w' ⟨rfl,rfl|⟨t,rfl⟩⟩
  ·exact⟨Or.inl ⟨v,rfl,rfl⟩,Below.refl _ _⟩
  ·exact⟨Or.inl ⟨v,rfl,rfl⟩,Lib.bytesWorld_below _ _ _⟩
 | «syntax» =>
  obtain⟨tp,p,hv⟩:=he.syn
  refine (Tryz.strconv_Atoi_syntax_var s (by omega) h tp p w hv).mono ?_
  rintro e w' ⟨n,rfl,_,_,hb⟩
  exact⟨Or.inr ⟨_,n,rfl,fun u hu=>by cases hu⟩,hb⟩
 | range =>
  obtain⟨tp,p,hv⟩:=he.rng
  refine (Tryz.strconv_Atoi_range_var s (by omega) h tp p w hv).mono ?_
  rintro e w' ⟨n,rfl,_,_,hb⟩
  exact⟨Or.inr ⟨_,n,rfl,fun u hu=>by cases hu⟩,hb⟩
theorem atoi_bound {l:List UInt8} {v:Int} (h:Lib.atoiAll l=.ok v) : -9223372036854775808≤v∧v≤9223372036854775807:=by
 unfold Lib.atoiAll at h
 split at h
 ·cases h
 ·simp only[]at h
  split at h
  ·cases h
  ·cases h
  ·split at h
   ·cases h
   ·split at h
    ·cases h
    ·injection h with h
     subst h
     split<;>omega
def HitsRel (s:Wd) (left:Int→Bool) (k z:Int):Prop :=
 (∀kk,kk ∈ numKinds→left (kk:Int)=false→∀n,hitQ s kk=some n→k=kk∧z=n)∧((k=0∧z=0)∨∃kk,kk ∈ numKinds∧hitQ s kk=some z∧k=kk)
theorem HitsRel.start (s:Wd):HitsRel s numK 0 0 :=
 ⟨fun kk hk hl=>(by rw[numKinds_K hk]at hl;cases hl),Or.inl ⟨rfl,rfl⟩⟩
theorem HitsRel.done {s:Wd} {left:Int→Bool} {k z:Int} (h:HitsRel s left k z) (hl:∀x,left x=false):hitsQ s=(k,z):=by
 obtain⟨h1,h2⟩:=h
 rcases h2 with⟨rfl,rfl⟩|⟨kk,hk,hh,rfl⟩
 ·refine hits_none fun kk hk=>?_
  cases e:hitQ s kk with
  | none=>rfl
  | some n =>
   obtain⟨a,b⟩:=h1 kk hk (hl _) n e
   simp only[numKinds,List.mem_cons,List.not_mem_nil,or_false]at hk
   omega
 ·exact hits_some hk hh
theorem HitsRel.miss {s:Wd} {left:Int→Bool} {k z x:Int} (h:HitsRel s left k z) (hn:hitQ s x.toNat=none):HitsRel s (fun y=>left y && !decide (y=x)) k z:=by
 refine⟨fun kk hk hl n e=>?_,h.2⟩
 by_cases c:(kk:Int)=x
 ·subst c
  rw[Int.toNat_natCast,e]at hn;cases hn
 ·refine h.1 kk hk ?_ n e
  simpa[c]using hl
theorem HitsRel.hit {s:Wd} {left:Int→Bool} {x n:Int} (hx:numK x=true) (hn:hitQ s x.toNat=some n):HitsRel s (fun y=>left y && !decide (y=x)) x n:=by
 obtain⟨hm,hxx⟩:=numK_mem hx
 refine⟨fun kk hk _ m e=>?_,Or.inr ⟨x.toNat,hm,hn,hxx.symm⟩⟩
 obtain⟨a,b⟩:=hit_one hk hm e hn
 rw[a,b]
 exact⟨hxx.symm,rfl⟩
def behind (s:Wd) (x:Int):Wd:=bs (Lib.trimPrefix s.data.toList (mkL x.toNat))
theorem behind_le (s:Wd) (x:Int):(behind s x).size≤s.size:=by
 have:=Lib.trimPrefix_le s.data.toList (mkL x.toNat)
 show (Lib.trimPrefix s.data.toList (mkL x.toNat)).length≤s.data.toList.length
 exact this
theorem hit_ok {s:Wd} {x v:Int} (hx:numK x=true) (hv:Lib.atoiAll (behind s x).data.toList=.ok v):hitQ s x.toNat=if tokW x v=s then some v else none:=by
 have hv:Lib.atoiAll (Lib.trimPrefix s.data.toList (mkL x.toNat))=.ok v:=hv
 unfold hitQ
 rw[hv]
 have e:tokW x v=bs (mkL x.toNat++Lib.itoa v):=by
  unfold tokW
  rw[if_neg (by rcases numK_iff.1 hx with rfl|rfl|rfl|rfl|rfl<;>decide)]
 rw[e]
theorem hit_bad {s:Wd} {x:Int} (hv:∀u,¬Lib.atoiAll (behind s x).data.toList=.ok u):hitQ s x.toNat=none:=by
 have hv:∀u,¬Lib.atoiAll (Lib.trimPrefix s.data.toList (mkL x.toNat))=.ok u:=hv
 unfold hitQ
 split
 ·next n e=>exact absurd e (hv n)
 ·rfl
theorem tokFit_num {x v:Int} (hx:numK x=true) (h : -9223372036854775808≤v∧v≤9223372036854775807):tokFit x v:=by
 have:=numK_iff.1 hx
 exact Or.inr ⟨by omega,by omega,by omega,h.1,h.2⟩
theorem opTo_succ (w:Wd) (n:Nat) (t:Int×Int):opTo w (n+1) t=if bs (opL (n+1))=w then (3,((n+1:Nat):Int)) else opTo w n t:=rfl
theorem tokW_op (n:Nat):tokW 3 (n:Int)=bs (opL n):=by
 unfold tokW;rw[if_pos rfl,Int.toNat_natCast]
/-! ### Tokens,one by one -/
theorem tokQ_none:tokQ (bs [])=(0,0):=by
 have h:hitsQ (bs [])=(0,0):=by decide
 unfold tokQ
 rw[h]
 decide
theorem exprQ_stop {nf:Nat} {par:Nat→Int} {A:Int} {us:List Wd} {n:Nat} (h:¬0<A):exprQ nf par us n A=([],(us,true)):=by
 cases us with
 | nil=>unfold exprQ;rw[if_neg h]
 | cons x us=>unfold exprQ;rw[if_neg h]
theorem exprQ_bad {nf:Nat} {par:Nat→Int} {A:Int} {us:List Wd} {n:Nat} (h:0<A) (hb:¬(tokErr (tokQ (hdW us)).1 (tokQ (hdW us)).2 nf 6=0∧n<24)):exprQ nf par us n A=([tokQ (hdW us)],(us.tail,false)):=by
 cases us with
 | nil=>unfold exprQ;rw[if_pos h];rfl
 | cons x us =>
  unfold exprQ
  rw[if_pos h]
  exact if_neg hb
theorem exprQ_good {nf:Nat} {par:Nat→Int} {A:Int} {us:List Wd} {n:Nat} (h:0<A) (hb:tokErr (tokQ (hdW us)).1 (tokQ (hdW us)).2 nf 6=0∧n<24) :
  us ≠ []∧exprQ nf par us n A=(tokQ (hdW us)::(exprQ nf par us.tail (n+1) (A+asksOf (tokQ (hdW us)).1 (tokQ (hdW us)).2 par - 1)).1,(exprQ nf par us.tail (n+1) (A+asksOf (tokQ (hdW us)).1 (tokQ (hdW us)).2 par - 1)).2):=by
 cases us with
 | nil =>
  exfalso
  have e:hdW []=bs []:=rfl
  rw[e,tokQ_none]at hb
  exact absurd hb.1 (by unfold tokErr;simp)
 | cons x us =>
  refine⟨by simp,?_⟩
  rw[exprQ,if_pos h]
  exact if_pos hb
end Go.Proofs.YtfaokaohhchdhaaGreatDoor
