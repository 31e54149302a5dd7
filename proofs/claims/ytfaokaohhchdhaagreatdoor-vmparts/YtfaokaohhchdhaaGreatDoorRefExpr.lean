/- CheckExpr of the reckoning beside the program: the same error as Expr's. -/
import Derived.Test.YtfaokaohhchdhaaGreatDoorPart41
import Derived.Test.YtfaokaohhchdhaaGreatDoorPart30
namespace Go.Proofs.YtfaokaohhchdhaaGreatDoor
open Go.RowKit Go.Maps
def total : List Int→Int
 | [] => 0
 | x :: r => x + total r
theorem total_append : ∀ A B : List Int,total (A ++ B)=total A + total B
 | [],B => by simp [total]
 | x :: A,B => by simp only [List.cons_append,total,total_append A B]; omega
theorem total_one (x : Int) : total [x]=x:=by simp [total]
theorem total_nonneg : ∀ {R : List Int},(∀ r ∈ R,0≤r)→0≤total R
 | [],_ => by simp [total]
 | x :: R,h => by
  have h1:=h x (by simp)
  have h2:=total_nonneg (R:=R) fun r hr => h r (by simp [hr])
  simp only [total]; omega
theorem total_pos : ∀ {R : List Int},(∀ r ∈ R,0≤r)→(0 < total R ↔ ∃ i,i < R.length + 1∧0 < ([0] ++ R).getD i 0)
 | [],_ => by
  simp only [total]
  refine ⟨fun h => absurd h (by decide),fun ⟨i,hi,h⟩ => ?_⟩
  obtain rfl : i=0:=by simpa using hi
  simp at h
 | x :: R,h => by
  have h1:=h x (by simp)
  have hR : ∀ r ∈ R,0≤r:=fun r hr => h r (by simp [hr])
  have h2:=total_nonneg (R:=R) hR
  have ih:=total_pos (R:=R) hR
  simp only [total]
  constructor
  ·intro hp
   by_cases hx : 0 < x
   ·exact ⟨1,by simp,by simpa using hx⟩
   ·obtain ⟨i,hi,hz⟩:=ih.1 (by omega)
    cases i with
    | zero => simp at hz
    | succ i => exact ⟨i + 2,by simp; omega,by simpa using hz⟩
  ·rintro ⟨i,hi,hz⟩
   match i with
   | 0 => simp at hz
   | 1 =>
    have : 0 < x:=by simpa using hz
    omega
   | i + 2 =>
    have:=ih.2 ⟨i + 1,by simp at hi; omega,by simpa using hz⟩
    omega
structure OpenIs (R : List Int) (A : Int) (x : Nat) : Prop where
 len : R.length≤x
 pos : ∀ r ∈ R,0≤r
 top : ∀ r ∈ R,r≤3
 none : x=0→R=[]
 sum : 0 < x→total R=A
 some : 0 < x→¬ R=[]
theorem nil_or_snoc (R : List Int) : R=[]∨∃ L r,R=L ++ [r]:=by
 rcases List.eq_nil_or_concat R with h | ⟨L,r,h⟩
 ·exact Or.inl h
 ·exact Or.inr ⟨L,r,by rw [h,List.concat_eq_append]⟩
def lenOf : Value→Nat
 | .slice _ n _ => n
 | _ => 0
theorem own_below {B : Nat} {e : TypeId} {k : Nat} {v : Value} {n : Nat} {xs : List Value} {w w' : World} (h : w.ownsRow B e k v n xs) (hb : Below w.heap.size w w') : w'.ownsRow B e k v n xs :=
 h.kept (row:=none) ⟨hb.os,hb.tape,hb.output,hb.size,fun j hj _ => hb.block j hj⟩ (by cases hv : v.ownBlock <;> simp)
theorem own_snoc {w : World} {base : Nat} {v : Value} {R : List Int} {x : Int} (h : w.ownsRow base 3 1 v (R.length + 1) (R.map (Value.int .i64) ++ [.int .i64 x])) : w.ownsRow base 3 1 v (R ++ [x]).length ((R ++ [x]).map (Value.int .i64)):=by
 have hl : (R ++ [x]).length=R.length + 1:=by simp
 rw [hl,List.map_append]
 exact h
theorem own_cat {w : World} {base n : Nat} {v : Value} {R : List Int} (hn : R.length=n) (h : w.ownsRow base 3 1 v n (R.map (Value.int .i64))) : IntsAt w v n (fun i => R.getD i 0):=by
 subst hn; exact own_ints h
theorem open_first {k z par : Nat→Int} {a : Int} (ha : 0≤a) (ha3 : a≤3) (e : asked k z par 1=asked k z par 0 + (a - 1)) : OpenIs ([] ++ [a]) (asked k z par 1) 1 :=
 ⟨by simp,by simpa using ha,by simpa using ha3,fun h => absurd h (by decide),fun _ => by rw [e]; simp [total,asked]; omega,fun _ => by simp⟩
theorem open_next {L : List Int} {r a A A' : Int} {x : Nat} (hl : L.length + 1≤x) (hL : ∀ y ∈ L,0≤y) (hL3 : ∀ y ∈ L,y≤3) (hr : 0 < r) (hr3 : r≤3) (ha : 0≤a) (ha3 : a≤3) (hs : total (L ++ [r])=A) (e : A'=A + (a - 1)) : OpenIs ((L ++ [r - 1]) ++ [a]) A' (x + 1):=by
 refine ⟨by simp; omega,fun y hy => ?_,fun y hy => ?_,fun h => absurd h (Nat.succ_ne_zero _),fun _ => ?_,fun _ => by simp⟩
 ·simp only [List.append_assoc,List.mem_append,List.mem_singleton] at hy
  rcases hy with hy | rfl | rfl
  ·exact hL y hy
  ·omega
  ·exact ha
 ·simp only [List.append_assoc,List.mem_append,List.mem_singleton] at hy
  rcases hy with hy | rfl | rfl
  ·exact hL3 y hy
  ·omega
  ·exact ha3
 ·rw [e,← hs]
  simp only [total_append,total_one]
  omega
set_option maxHeartbeats 4000000 in
theorem refExpr (N : Nat) (v f : Value) (n : Nat) (k z : Nat→Int) (nf : Nat) (par loc : Nat→Int) (bv : Nat→Value) (locals : Int) (w : World) (hN : N≤w.heap.size) (h : ToksAt N w v n k z) (hf : FunsAt N w f nf par loc bv) :
  Calls Tryz.prog 217 #[v,f,.int .i64 locals] w fun e w' => e=.returned (.int .i64 (exprErr n k z nf par locals))∧Below w.heap.size w w':=by
 obtain ⟨a,cap,rfl,hn,h⟩:=h
 have hf0:=hf
 obtain ⟨af,capf,rfl,hnf,hf⟩:=hf
 by_cases hbig : 24 < n
 ·have HE : Hid (exprErr n k z nf par locals=2):=exprErr_many hbig
  have hbi : (24 : Int) < (n : Int):=by omega
  go_enter Tryz.func217,Tryz.ntmps217
  go_wp2_with fail
  go_ret
  exact ⟨ret_num HE.out.symm,Below.refl _ _⟩
 have hbi : ¬ (24 : Int) < (n : Int):=by omega
 have HB : Hid (¬ 24 < n):=hbig
 go_enter Tryz.func217,Tryz.ntmps217
 go_wp2_with fail
 go_loopw [18] (fun i wr => ∃ j : Nat,j≤nf∧i=.int .i64 j∧Below w.heap.size w wr∧Hid (∀ x,x < j→parErr (par x)=0)) (fun i _ => nf - (intOf i).toNat)
 case atStart => exact ⟨0,Nat.zero_le _,rfl,Below.refl _ _,fun j hj => absurd hj (Nat.not_lt_zero _)⟩
 case round =>
  obtain ⟨j,hj,rfl,hb,hall⟩:=hrel
  by_cases hlt : j < nf
  ·rcases hf with hf | ⟨p,o,rfl,hp,g⟩
   ·omega
   obtain ⟨q0,q1,q2,ba,bm,bc,eb⟩:=g j hlt
   have hp' : p < w.heap.size:=by omega
   rw [eb] at q2
   rw [← hb.cell hp'] at q0 q1 q2
   clear g
   have hz:=hb.size
   by_cases he : parErr (par j)=0
   ·obtain ⟨e0,e1⟩:=parErr_zero he
    have HE : Hid (parErr (par j)=0):=he
    clear he
    go_wp2
    go_roundw
    case rel => exact ⟨j + 1,by omega,by go_num,hb.alloc hz _,upTo hall.out HE.out⟩
    case measure => simp [intOf]; omega
   ·have HE : Hid (exprErr n k z nf par locals=3):=exprErr_par HB.out hlt he
    have he' : par j < 0∨3 < par j:=by
     unfold parErr at he
     by_cases hh : par j < 0∨3 < par j
     ·exact hh
     ·rw [if_neg hh] at he; exact absurd rfl he
    clear he
    rcases he' with e0 | e0
    ·have e1 : ¬ 0≤par j:=by omega
     go_wp2
     go_ret
     exact ⟨ret_num HE.out.symm,hb.alloc hz _⟩
    ·have e1 : 0≤par j:=by omega
     have e2 : ¬ par j≤3:=by omega
     go_wp2
     go_ret
     exact ⟨ret_num HE.out.symm,hb.alloc hz _⟩
  ·obtain rfl : j=nf:=by omega
   clear hf
   go_wp2_with fail
   go_loopw [9,29] (fun q i wi => ∃ (x : Nat) (R : List Int),x≤n∧i=.int .i64 x∧wi.ownsRow w.heap.size 3 1 q R.length (R.map (Value.int .i64))∧Below w.heap.size w wi∧Hid (∀ y,y < x→stepErr k z j par locals y=0)∧Hid (OpenIs R (asked k z par x) x)) (fun _ i _ => n - (intOf i).toNat)
   case atStart => exact ⟨0,[],Nat.zero_le _,rfl,World.ownsRow_nil _ _ _ _,hb,fun j hj => absurd hj (Nat.not_lt_zero _),⟨Nat.le_refl _,fun r hr => absurd hr List.not_mem_nil,fun r hr => absurd hr List.not_mem_nil,fun _ => rfl,fun h => absurd h (Nat.lt_irrefl _),fun h => absurd h (Nat.lt_irrefl _)⟩⟩
   case round =>
    clear hb
    obtain ⟨x,R,hx,rfl,hown,hb,hin,hop⟩:=hrel
    have HX : Hid (asked k z par (x + 1)=asked k z par x + (asksOf (k x) (z x) par - 1)):=rfl
    have hRl:=hop.out.len
    have hx24 : n≤24:=by have:=HB.out; omega
    by_cases hxlt : x < n
    ·rcases h with h | ⟨p,o,rfl,hp,g⟩
     ·omega
     obtain ⟨q0,q1⟩:=g x hxlt
     have hp' : p < w.heap.size:=by omega
     rw [← hb.cell hp'] at q0 q1
     clear g
     have hz:=hb.size
     by_cases he : tokErr (k x) (z x) j locals=0
     ·have hk:=asks_range (par:=par) he hall.out
      have HC : Hid (k x=6→0≤z x∧(z x).toNat < j):=fun e => tokErr_call he e
      have het : (tokErr (k x) (z x) j locals != 0)=false:=by simp [he]
      have HK : Hid (tokErr (k x) (z x) j locals=0):=he
      obtain ⟨aq,cq,rfl⟩:=own_shape hown
      have HO : Hid (∀ b,(Value.slice aq R.length cq).ownBlock=some b→b < wr.heap.size):=fun b hb => (hown.lt b hb).2
      clear he
      go_wp2_with (go_at_call 147; refine (refCheckTok _ _ _ _ _ _ _).mono ?_; rintro e w1 ⟨rfl,hb1⟩; have m0:=box_in hb1 0 rfl; have m1:=box_in hb1 1 rfl)
      have hbw : Below w.heap.size w w1:=below_step hb (below_step (below_alloc _ _) hb1)
      have hown1:=own_below hown (below_step (below_alloc _ _) hb1)
      have hwB : wr.heap.size < w1.heap.size:=Nat.lt_of_lt_of_le (by simp) hb1.size
      clear hb1 hown hb q0 q1 het
      generalize wr.heap.size=B at *
      go_loopw [9] (fun q wi => ∃ R' : List Int,wi=w1∧w1.ownsRow w.heap.size 3 1 q R'.length (R'.map (Value.int .i64))∧Hid (∀ b,q.ownBlock=some b→b < B)∧Hid (R'.length≤R.length∧(∀ r ∈ R',0≤r)∧(∀ r ∈ R',r≤3)∧total R'=total R)) (fun q _ => lenOf q)
      case atStart => exact ⟨R,rfl,hown1,HO,Nat.le_refl _,hop.out.pos,hop.out.top,rfl⟩
      case round =>
       clear hown1 HO
       obtain ⟨R',rfl,hown,HO,HR⟩:=hrel
       rcases nil_or_snoc R' with rfl | ⟨L,r,rfl⟩
       ·obtain ⟨a2,c2,rfl⟩:=own_shape hown
        by_cases hx0 : x=0
        ·have hxi : ¬ (0 : Int) < (x : Int):=by omega
         have HS : Hid (stepErr k z j par locals x=0):=stepErr_good HK.out (by subst hx0; simp [asked])
         have HP : Hid (OpenIs ([] ++ [asksOf (k x) (z x) par]) (asked k z par (x + 1)) (x + 1)):=by
          subst hx0; exact open_first hk.1 hk.2 HX.out
         clear hx0
         go_wp2_with (first
          | (go_at_call 148; refine (refAsks N (k x) (z x) _ j par loc bv _ (hf0.below (hbw.mono hN)) HC.out).mono ?_; rintro e w2 ⟨rfl,hb2⟩)
          | (at_builtin; refine append_int _ rfl _ _ rfl w.heap.size _ [] rfl (own_below hown hb2) _ _ _ rfl rfl (by simp) (Nat.le_trans hbw.size hb2.size) ?_; intro ad cp w3 hown3 hgrow3))
         go_roundw
         case rel =>
          have b3:=(below_step hbw hb2).alloc (Nat.le_trans hbw.size hb2.size) (.cells #[.int .i64 (asksOf (k x) (z x) par)] 3)
          exact ⟨x + 1,_,by omega,by go_num,own_snoc hown3,b3.grown hgrow3 b3.size (fun b hb => (hown.lt b hb).1),upTo hin.out HS.out,HP.out⟩
         case measure => simp [intOf]; omega
        ·have hxi : (0 : Int) < (x : Int):=by omega
         have HE : Hid (exprErr n k z j par locals=4):=by
          have e0 : asked k z par x=0:=by
           rw [← hop.out.sum (by omega),← HR.out.2.2.2]; rfl
          exact (exprErr_step HB.out hall.out hxlt hin.out (by rw [stepErr_over HK.out e0]; decide)).trans (stepErr_over HK.out e0)
         clear hx0
         go_wp2_with fail
         go_ret
         exact ⟨ret_num HE.out.symm,hbw⟩
       ·obtain ⟨g,c2,rfl,hg1,hg2,hgc,hcell,hfr,hpop,hset⟩:=own_last hown
        have hLl : L.length + 1≤R.length:=by have:=HR.out.1; simp at this; exact this
        have hgB : g < B:=HO.out g rfl
        have hsl:=slice_to Tryz.underlying30 Tryz.sizeOf3 ⟨g,0,none⟩ (L.length + 1) c2 L.length L.length rfl (by omega)
        by_cases hr : r=0
        ·subst hr
         go_wp2_with fail
         go_roundw
         case rel =>
          exact ⟨L,trivial,hpop,fun b hb => by cases hb; exact hgB,by omega,fun y hy => HR.out.2.1 y (by simp [hy]),fun y hy => HR.out.2.2.1 y (by simp [hy]),by rw [← HR.out.2.2.2,total_append,total_one]; omega⟩
         case measure => simp [lenOf]
        ·have hrt : (r == 0)=false:=by simp [hr]
         have hr0 : 0≤r:=HR.out.2.1 r (by simp)
         have hr3 : r≤3:=HR.out.2.2.1 r (by simp)
         have hx0 : 0 < x:=by omega
         have hxi : (0 : Int) < (x : Int):=by omega
         have hsum:=hop.out.sum hx0
         have HL : Hid (∀ y ∈ L,0≤y):=fun y hy => HR.out.2.1 y (by simp [hy])
         have HL3 : Hid (∀ y ∈ L,y≤3):=fun y hy => HR.out.2.2.1 y (by simp [hy])
         have HT : Hid (total (L ++ [r])=asked k z par x):=HR.out.2.2.2.trans hsum
         have HS : Hid (stepErr k z j par locals x=0):=stepErr_good HK.out (by
          have:=HT.out
          rw [total_append,total_one] at this
          have:=total_nonneg HL.out
          omega)
         have HP : Hid (OpenIs ((L ++ [r - 1]) ++ [asksOf (k x) (z x) par]) (asked k z par (x + 1)) (x + 1)):=open_next (by omega) HL.out HL3.out (by omega) hr3 hk.1 hk.2 HT.out HX.out
         have hgne : ¬ g=B:=by omega
         clear hr hsum
         go_wp2_with (first
          | (go_at_call 148; refine (refAsks N (k x) (z x) _ j par loc bv _ (hf0.below ((hbw.setCell (p:=⟨g,L.length,none⟩) hg1 _).mono hN)) HC.out).mono ?_; rintro e w2 ⟨rfl,hb2⟩)
          | (at_builtin; refine append_int _ rfl _ _ rfl w.heap.size _ (L ++ [r - 1]) rfl (own_below (hset (r - 1)) hb2) _ _ _ rfl rfl (by simp; omega) (Nat.le_trans (hbw.setCell (p:=⟨g,L.length,none⟩) hg1 _).size hb2.size) ?_; intro ad cp w3 hown3 hgrow3))
         go_roundw
         case rel =>
          have b2:=below_step (hbw.setCell (p:=⟨g,L.length,none⟩) hg1 (.int .i64 (r - 1))) hb2
          have b3:=b2.alloc b2.size (.cells #[.int .i64 (asksOf (k x) (z x) par)] 3)
          exact ⟨x + 1,(L ++ [r - 1]) ++ [asksOf (k x) (z x) par],by omega,by go_num,by simpa using own_snoc hown3,b3.grown hgrow3 b3.size (fun b hb => by cases hb; exact hg1),upTo hin.out HS.out,HP.out⟩
         case measure => simp [intOf]; omega
     ·have het : (tokErr (k x) (z x) j locals != 0)=true:=by simp [he]
      have HE : Hid (exprErr n k z j par locals=tokErr (k x) (z x) j locals):=(exprErr_step HB.out hall.out hxlt hin.out (by rw [stepErr_bad he]; exact he)).trans (stepErr_bad he)
      clear he
      go_wp2_with (go_at_call 147; refine (refCheckTok _ _ _ _ _ _ _).mono ?_; rintro e w1 ⟨rfl,hb1⟩)
      go_ret
      exact ⟨ret_num HE.out.symm,below_step hb (below_step (below_alloc _ _) hb1)⟩
    ·obtain rfl : x=n:=by omega
     have HE : Hid (exprErr x k z j par locals=if 0 < asked k z par x then 4 else 0):=exprErr_end HB.out hall.out hin.out
     by_cases hx0 : x=0
     ·have HF : Hid (exprErr x k z j par locals=4):=HE.out.trans (if_pos (by rw [hx0]; simp [asked]))
      have hxi : ((x : Int) == 0)=true:=by simp [hx0]
      clear hx0
      go_wp2_with fail
      go_ret
      exact ⟨ret_num HF.out.symm,hb⟩
     ·have hxi : ((x : Int) == 0)=false:=by simp [hx0]
      have HS : Hid (total R=asked k z par x):=hop.out.sum (by omega)
      rcases nil_or_snoc R with rfl | ⟨L,r,rfl⟩
      ·exact absurd rfl (hop.out.some (by omega))
      ·obtain ⟨g,c2,rfl,hg1,hg2,hgc,_⟩:=own_last hown
       clear hx0
       have HLn : Hid ((L ++ [r]).length=L.length + 1):=by simp [Hid]
       have hL24 : L.length + 1≤24:=by have:=hop.out.len; rw [HLn.out] at this; omega
       have HCell : Hid (∀ b,b < (L ++ [r]).length→wr.cell? ⟨g,b,none⟩=some (.int .i64 ((L ++ [r]).getD b 0))):=fun b hb => by
        obtain ⟨_,_,e,h0 | ⟨_,_,e2,_,gg⟩⟩:=own_ints hown
        ·rw [h0] at hb; exact absurd hb (Nat.not_lt_zero _)
        ·have e3:=(Value.slice.inj e).1.trans e2
         cases e3
         have:=gg b hb
         rwa [Nat.zero_add] at this
       have HPos : Hid (0 < total (L ++ [r]) ↔ ∃ i,i < (L ++ [r]).length + 1∧0 < ([0] ++ (L ++ [r])).getD i 0):=total_pos hop.out.pos
       have HO : Hid (w.heap.size≤wr.heap.size):=hb.size
       by_cases ha : 0 < asked k z par x
       ·have HF : Hid (exprErr x k z j par locals=4):=HE.out.trans (if_pos ha)
        go_wp2_with (first
         | (at_builtin; refine wpList_wanted rfl ?_; refine append_ints _ rfl _ _ rfl w.heap.size _ [0] (L ++ [r]) rfl (World.ownsRow_lit wr #[.int .i64 0] 1 HO.out (by decide) rfl) g c2 (by simp; rfl) (fun b hb => (World.cell?_alloc_lt _ _ _ (by exact hg2)).trans (HCell.out b hb)) (by simp; omega) (by simp; omega) ?_; intro ad cp w3 hown3 hgrow3; rw [HLn.out] at hown3; have hI3 : IntsAt w3 (.slice ad (1 + (L.length + 1)) cp) (1 + (L.length + 1)) (fun i => ([0] ++ (L ++ [r])).getD i 0):=own_cat (by simp; omega) hown3)
         | (go_at_call 244; refine (maxInts _ _ _ _ hI3 (by omega) (by omega)).mono ?_; rintro e w2 ⟨m,rfl,hm,rfl⟩; have hm0 : 0 < m:=hm.out.2 (by have:=HPos.out.1 (by rw [HS.out]; exact ha); rw [HLn.out,Nat.add_comm] at this; exact this)))
        go_ret
        exact ⟨ret_num HF.out.symm,(hb.alloc hb.size _).grown hgrow3 (by simp; omega) (fun b hb' => by cases hb'; exact hb.size)⟩
       ·have HF : Hid (exprErr x k z j par locals=0):=HE.out.trans (if_neg ha)
        go_wp2_with (first
         | (at_builtin; refine wpList_wanted rfl ?_; refine append_ints _ rfl _ _ rfl w.heap.size _ [0] (L ++ [r]) rfl (World.ownsRow_lit wr #[.int .i64 0] 1 HO.out (by decide) rfl) g c2 (by simp; rfl) (fun b hb => (World.cell?_alloc_lt _ _ _ (by exact hg2)).trans (HCell.out b hb)) (by simp; omega) (by simp; omega) ?_; intro ad cp w3 hown3 hgrow3; rw [HLn.out] at hown3; have hI3 : IntsAt w3 (.slice ad (1 + (L.length + 1)) cp) (1 + (L.length + 1)) (fun i => ([0] ++ (L ++ [r])).getD i 0):=own_cat (by simp; omega) hown3)
         | (go_at_call 244; refine (maxInts _ _ _ _ hI3 (by omega) (by omega)).mono ?_; rintro e w2 ⟨m,rfl,hm,rfl⟩; have hm0 : ¬ 0 < m:=fun hm1 => ha (by rw [← HS.out]; refine HPos.out.2 ?_; have:=hm.out.1 hm1; rw [HLn.out,Nat.add_comm]; exact this)))
        go_ret
        exact ⟨ret_num HF.out.symm,(hb.alloc hb.size _).grown hgrow3 (by simp; omega) (fun b hb' => by cases hb'; exact hb.size)⟩
end Go.Proofs.YtfaokaohhchdhaaGreatDoor
