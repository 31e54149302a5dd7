/- New: the state of a run that begins. -/
import Derived.Test.YtfaokaohhchdhaaGreatDoorPart12
import Derived.Test.YtfaokaohhchdhaaGreatDoorVmCopied
import Derived.Test.YtfaokaohhchdhaaGreatDoorPart19
import Derived.Test.YtfaokaohhchdhaaGreatDoorPart4
namespace Go.Proofs.YtfaokaohhchdhaaGreatDoor
open Go.RowKit Go.Maps
def StaPost (w : World) (S' : Sta) (e : Ending) (w' : World) : Prop :=
 ∃ fa nf fc ca nc cc rv xv,e=.returned (.tuple #[.agg #[.slice fa nf fc,.slice ca nc cc,.int .i64 S'.st,.int .i64 S'.wh],.int .i64 0])∧Own w.heap.size w' (.slice fa nf fc) (.slice ca nc cc) rv xv S'∧Below w.heap.size w w'
def noSta (er : Int) : Ending:=.returned (.tuple #[.agg #[.slice none 0 0,.slice none 0 0,.int .i64 0,.int .i64 0],.int .i64 er])
set_option maxRecDepth 20000 in
set_option maxHeartbeats 2000000 in
theorem vmNew_good (pb poo np pc n : Nat) (w W : World) (HW : Hid (w.alloc (.cells #[.slice none 0 0,.slice none 0 0,.int .i64 0,.int .i64 0] 26)=W)) (HC : Hid (Calls Tryz.prog 43 #[.slice (some ⟨pb,poo,none⟩) np pc] W fun e w' => e=.returned (.int .i64 0)∧Below W.heap.size W w')) (HY : Hid (Box4 26 w.heap.size W (.slice none 0 0) (.slice none 0 0) (.int .i64 0) (.int .i64 0))) (HYs : Hid (w.heap.size < W.heap.size)) (HB : Hid (Below w.heap.size w W))
  (HR : Hid (∀ wi,Below W.heap.size W wi→wi.cell? ⟨pb,poo + 1,none⟩=some (.int .i64 n))) (hnp : 0 < np) (hn : n≤1000) :
  Calls Tryz.prog 12 #[.slice (some ⟨pb,poo,none⟩) np pc] w (StaPost w ⟨[⟨0,0,List.replicate n (0,0),0⟩],[],0,0⟩):=by
 have hmk:=mkVals n hn
 have hi0 : (0 : Int) < (np : Int):=by omega
 have HN : Hid (n≤1000):=hn
 go_enter Tryz.func12,Tryz.ntmps12
 go_upto_region 1 with (fail)
 rw [HW.out]
 go_upto_region 4 with (go_at_call 43; refine HC.out.mono ?_; rintro e w1 ⟨rfl,hb1⟩)
 have q0:=HR.out w1 hb1
 have HB1 : Hid (Below w.heap.size w w1):=below_step HB.out hb1
 have HY1 : Hid (∀ wi,Below w1.heap.size w1 wi→Box4 26 w.heap.size wi (.slice none 0 0) (.slice none 0 0) (.int .i64 0) (.int .i64 0)):=fun wi hw => HY.out.keep ((hw.block _ (Nat.lt_of_lt_of_le HYs.out hb1.size)).trans (hb1.block _ HYs.out))
 have HA : Hid (∀ o o',Below w1.heap.size w1 ((w1.alloc o).alloc o')):=fun o o' => below_step (below_alloc _ _) (below_alloc _ _)
 have a0:=fun o o' => (HY1.out _ (HA.out o o')).at.1
 have a1:=fun o o' => (HY1.out _ (HA.out o o')).at.2.1
 have a2:=fun o o' => (HY1.out _ (HA.out o o')).at.2.2.1
 have a3:=fun o o' => (HY1.out _ (HA.out o o')).at.2.2.2.1
 have a40:=fun o o' => (HY1.out _ (HA.out o o')).at.2.2.2.2 0
 have a41:=fun o o' => (HY1.out _ (HA.out o o')).at.2.2.2.2 1
 have a42:=fun o o' => (HY1.out _ (HA.out o o')).at.2.2.2.2 2
 have a43:=fun o o' => (HY1.out _ (HA.out o o')).at.2.2.2.2 3
 have HF : Hid (∀ o o' x,((((((w1.alloc o).alloc o').setCell ⟨w.heap.size,0,none⟩ x).setCell ⟨w.heap.size,1,none⟩ (.slice none 0 0)).setCell ⟨w.heap.size,2,none⟩ (.int .i64 0)).setCell ⟨w.heap.size,3,none⟩ (.int .i64 0)).heap[w.heap.size]?=some (.cells #[x,.slice none 0 0,.int .i64 0,.int .i64 0] 26 (0,0))):=fun o o' x => by
  have h0:=HY1.out _ (HA.out o o')
  unfold Box4 at h0
  have h1:=heap_setCell_same _ w.heap.size 0 _ _ x h0
  have h2:=heap_setCell_same _ w.heap.size 1 _ _ (.slice none 0 0) h1
  have h3:=heap_setCell_same _ w.heap.size 2 _ _ (.int .i64 0) h2
  exact heap_setCell_same _ w.heap.size 3 _ _ (.int .i64 0) h3
 have HE : Hid (∀ x,Own w.heap.size ((((((w1.alloc (.cells (madeCells #[.int .i64 0,.int .i64 0] (n * 2)) 92)).alloc (.cells #[.int .i64 0,.int .i64 0,.slice (some ⟨w1.heap.size,0,none⟩) n n,.int .i64 0] 40)).setCell ⟨w.heap.size,0,none⟩ x).setCell ⟨w.heap.size,1,none⟩ (.slice none 0 0)).setCell ⟨w.heap.size,2,none⟩ (.int .i64 0)).setCell ⟨w.heap.size,3,none⟩ (.int .i64 0)) (.slice (some ⟨w1.heap.size + 1,0,none⟩) 1 1) (.slice none 0 0) [.slice (some ⟨w1.heap.size,0,none⟩) n n] [] ⟨[⟨0,0,List.replicate n (0,0),0⟩],[],0,0⟩):=fun x => by
  have hYl : w.heap.size < w1.heap.size:=Nat.lt_of_lt_of_le HYs.out hb1.size
  have hs1 : (w1.alloc (.cells (madeCells #[.int .i64 0,.int .i64 0] (n * 2)) 92)).heap.size=w1.heap.size + 1:=by simp
  have r1 : VRow (w.heap.size + 1) ((w1.alloc (.cells (madeCells #[.int .i64 0,.int .i64 0] (n * 2)) 92)).alloc (.cells #[.int .i64 0,.int .i64 0,.slice (some ⟨w1.heap.size,0,none⟩) n n,.int .i64 0] 40)) (.slice (some ⟨w1.heap.size,0,none⟩) n n) (List.replicate n (0,0)):=World.ownsRow.alloc (made_row n HN.out (w.heap.size + 1) w1 (by omega)) _
  have r2 : World.ownsRow ((w1.alloc (.cells (madeCells #[.int .i64 0,.int .i64 0] (n * 2)) 92)).alloc (.cells #[.int .i64 0,.int .i64 0,.slice (some ⟨w1.heap.size,0,none⟩) n n,.int .i64 0] 40)) (w.heap.size + 1) 40 4 (.slice (some ⟨w1.heap.size + 1,0,none⟩) 1 1) 1 [.int .i64 0,.int .i64 0,.slice (some ⟨w1.heap.size,0,none⟩) n n,.int .i64 0]:=by
   have:=World.ownsRow_lit (w1.alloc (.cells (madeCells #[.int .i64 0,.int .i64 0] (n * 2)) 92)) (base:=w.heap.size + 1) (e:=40) (size:=4) #[.int .i64 0,.int .i64 0,.slice (some ⟨w1.heap.size,0,none⟩) n n,.int .i64 0] 1 (by omega) (by decide) rfl
   rw [hs1] at this
   exact this
  have hO : Own (w.heap.size + 1) ((w1.alloc (.cells (madeCells #[.int .i64 0,.int .i64 0] (n * 2)) 92)).alloc (.cells #[.int .i64 0,.int .i64 0,.slice (some ⟨w1.heap.size,0,none⟩) n n,.int .i64 0] 40)) (.slice (some ⟨w1.heap.size + 1,0,none⟩) 1 1) (.slice none 0 0) [.slice (some ⟨w1.heap.size,0,none⟩) n n] [] ⟨[⟨0,0,List.replicate n (0,0),0⟩],[],0,0⟩:=by
   refine ⟨r2,World.ownsRow_nil _ _ _ _,rfl,fun i hi => ?_,fun i hi => absurd hi (Nat.not_lt_zero _),fun i j u u' b hi hj _ _ => ?_,fun i j u u' b hi => by simp at hi,fun i j u u' b _ hj => by simp at hj⟩
   ·have hi : i < 1:=hi
    obtain rfl : i=0:=by omega
    exact ⟨_,rfl,r1⟩
   ·have h1:=(List.getElem?_eq_some_iff.1 hi).1
    have h2:=(List.getElem?_eq_some_iff.1 hj).1
    simp only [List.length_cons,List.length_nil] at h1 h2
    omega
  refine (hO.stay fun k hk _ => ?_).lower (by omega)
  have hne : ¬ k=w.heap.size:=by omega
  exact (((Below.heap_setCell _ _ _ _ hne).trans (Below.heap_setCell _ _ _ _ hne)).trans (Below.heap_setCell _ _ _ _ hne)).trans (Below.heap_setCell _ _ _ _ hne)
 clear hb1
 go_wp2
 refine bodyPost_ret (results_row_tmp rfl _ _ w.heap.size 26 _ (0,0) _ rfl (HF.out _ _ _) Tryz.underlying26 rfl (by kernel_rfl)) rfl ?_
 exact ⟨_,_,_,_,_,_,_,_,rfl,HE.out _,((((HB1.out.trans ((HA.out _ _).mono HB1.out.size)).setCell (Nat.le_refl _) _).setCell (Nat.le_refl _) _).setCell (Nat.le_refl _) _).setCell (Nat.le_refl _) _⟩
set_option maxHeartbeats 2000000 in
theorem goes_st (X : Nat) (st : Int) (w : World) (c3 : w.cell? ⟨X,3,none⟩=some (.int .i64 st)) (h : ¬ st=0) :
  Calls Tryz.prog 46 #[.pointer (some ⟨X,0,none⟩)] w fun e w' => e=.returned (.bool false)∧Below w.heap.size w w':=by
 have hb : (st != 0)=true:=by simp [h]
 clear h
 go_enter Tryz.func46,Tryz.ntmps46
 go_wp2
 go_ret
 exact ⟨rfl,Below.refl _ _⟩
set_option maxHeartbeats 2000000 in
theorem goes_pz (X : Nat) (w : World) (c3 : w.cell? ⟨X,3,none⟩=some (.int .i64 0)) (c6 : w.cell? ⟨X,6,none⟩=some (.bool true)) :
  Calls Tryz.prog 46 #[.pointer (some ⟨X,0,none⟩)] w fun e w' => e=.returned (.bool false)∧Below w.heap.size w w':=by
 go_enter Tryz.func46,Tryz.ntmps46
 go_wp2
 go_ret
 exact ⟨rfl,Below.refl _ _⟩
set_option maxHeartbeats 2000000 in
theorem goes_few (X g m sl scap : Nat) (sa : Option Addr) (w : World) (c3 : w.cell? ⟨X,3,none⟩=some (.int .i64 0)) (c6 : w.cell? ⟨X,6,none⟩=some (.bool false))
  (HF : Hid (Calls Tryz.prog 101 #[.pointer (some ⟨X,0,none⟩)] w fun e w' => e=.returned (.pointer (some ⟨g,m * 4,none⟩))∧Below w.heap.size w w'))
  (HC : Hid (∀ wi,Below w.heap.size w wi→wi.cell? ⟨X,5,none⟩=some (.slice sa sl scap))) (hl : sl < 40) :
  Calls Tryz.prog 46 #[.pointer (some ⟨X,0,none⟩)] w fun e w' => e=.returned (.bool true)∧Below w.heap.size w w':=by
 have h1 : (sl : Int) < 40:=by omega
 go_enter Tryz.func46,Tryz.ntmps46
 go_wp2_with (go_at_call 101; refine HF.out.mono ?_; rintro e w1 ⟨rfl,hb1⟩; have q:=HC.out w1 hb1)
 go_quiet (fail)
 go_wp2
 go_ret
 exact ⟨rfl,below_step hb1 (below_drewN' _ _)⟩
set_option maxHeartbeats 2000000 in
theorem goes_full (X g m sl scap pr po pb poo np pc cb co n cc : Nat) (op : Int) (sa : Option Addr) (w : World) (c3 : w.cell? ⟨X,3,none⟩=some (.int .i64 0)) (c6 : w.cell? ⟨X,6,none⟩=some (.bool false))
  (HF : Hid (Calls Tryz.prog 101 #[.pointer (some ⟨X,0,none⟩)] w fun e w' => e=.returned (.pointer (some ⟨g,m * 4,none⟩))∧Below w.heap.size w w'))
  (HC : Hid (∀ wi,Below w.heap.size w wi→wi.cell? ⟨X,5,none⟩=some (.slice sa sl scap)∧wi.cell? ⟨X,0,none⟩=some (.slice (some ⟨pb,poo,none⟩) np pc)∧wi.cell? ⟨g,m * 4,none⟩=some (.int .i64 pr)∧wi.cell? ⟨g,m * 4 + 1,none⟩=some (.int .i64 po)∧wi.cell? ⟨pb,poo + pr * 3 + 2,none⟩=some (.slice (some ⟨cb,co,none⟩) n cc)∧wi.cell? ⟨cb,co + po * 5,none⟩=some (.int .i64 op)))
  (hl : ¬ sl < 40) (hpr : pr < np) (hpo : po < n) :
  Calls Tryz.prog 46 #[.pointer (some ⟨X,0,none⟩)] w fun e w' => e=.returned (.bool (op != 9))∧Below w.heap.size w w':=by
 have h1 : ¬ (sl : Int) < 40:=by omega
 have h1d : decide ((sl : Int) < 40)=false:=by simp; omega
 have h2 : (0 : Int)≤(pr : Int):=by omega
 have h3 : (pr : Int) < (np : Int):=by omega
 have h4 : (0 : Int)≤(po : Int):=by omega
 have h5 : (po : Int) < (n : Int):=by omega
 generalize hb : (op != 9)=bb
 go_enter Tryz.func46,Tryz.ntmps46
 go_wp2_with (go_at_call 101; refine HF.out.mono ?_; rintro e w1 ⟨rfl,hb1⟩; obtain ⟨q1,q2,q3,q4,q5,q6⟩:=HC.out w1 hb1)
 go_quiet (fail)
 go_wp2
 go_ret
 exact ⟨rfl,below_step hb1 (below_drewN' _ _)⟩
theorem goesP {np : Nat} {P : Nat→Pc} (M X B : Nat) (w : World) (pv : Value) (R : Rn) (hc : CodeOK np P) (hs : StaOK np P R.s) (h : RA X B w pv R) (hp : ProcsAt M w pv np P) :
  Calls Tryz.prog 46 #[.pointer (some ⟨X,0,none⟩)] w fun e w' => e=.returned (.bool (goesB P R))∧Below w.heap.size w w':=by
 obtain ⟨fv,cv,sv,rv,xv,h⟩:=h
 obtain ⟨c0,c1,c2,c3,c4,c5,c6,c7⟩:=h.cells
 by_cases hst : R.s.st=0
 ·rw [hst] at c3
  cases hpz : R.paused with
  | true =>
   rw [hpz] at c6
   have e : goesB P R=false:=by unfold goesB; simp [hpz]
   rw [e]
   exact goes_pz X w c3 c6
  | false =>
   rw [hpz] at c6
   have hn : ¬ R.s.fs.length=0:=hs.unfin (by omega)
   have ht:=hs.top hn
   have hlen:=ht.len
   have hfew:=hs.few
   obtain ⟨pr,hpr⟩:=nat_of ht.p0
   obtain ⟨po,hpo⟩:=nat_of ht.a0
   have hpr1:=ht.p1
   have hpo1:=ht.a1
   rw [hpr] at hpr1
   rw [hpr,hpo,Int.toNat_natCast] at hpo1
   have hprn : pr < np:=by omega
   have hr0:=hc.r0 pr hprn
   have hpoN : po < (P pr).n:=by omega
   have hlen' : ((topF R.s).regs.length : Int)=(P pr).regs:=by rw [hlen,hpr,Int.toNat_natCast]
   have hin : insS P R.s=(P pr).ins po:=by unfold insS procS; rw [hpr,hpo,Int.toNat_natCast,Int.toNat_natCast]
   obtain ⟨g,m,cap,rb,rc,rfl,hfl,hrv,T⟩:=h.top hn (by omega)
   obtain ⟨sa,scap,rfl⟩:=own_shape h.sd
   have HF : Hid (Calls Tryz.prog 101 #[.pointer (some ⟨X,0,none⟩)] w fun e w' => e=.returned (.pointer (some ⟨g,m * 4,none⟩))∧Below w.heap.size w w'):=vframe X B w _ cv _ g m cap rv xv R h (by omega)
   by_cases hl : R.said.length < 40
   ·have e : goesB P R=true:=by unfold goesB; simp [hst,hpz,hl]
    rw [e]
    exact goes_few X g m _ scap sa w c3 c6 HF (fun wi hw => below_at hw c5) hl
   ·obtain ⟨pb,poo,pc,cb,co,cc,aa,ac,rfl,hpb,hcb,p1,p2,d0,_⟩:=hp.ins hprn hpoN
    have e : goesB P R=(((P pr).ins po).op != 9):=by
     unfold goesB; rw [hin]
     have : decide (R.said.length < 40)=false:=by simpa using hl
     rw [this,hst,hpz]
     by_cases h9 : ((P pr).ins po).op=9 <;> simp [h9]
    rw [e]
    have t0:=T.c0
    have t1:=T.c1
    rw [hpr] at t0
    rw [hpo] at t1
    exact goes_full X g m _ scap pr po pb poo np pc cb co (P pr).n cc _ sa w c3 c6 HF (fun wi hw => ⟨below_at hw c5,below_at hw c0,below_at hw t0,below_at hw t1,below_at hw p2,below_at hw d0⟩) hl hprn hpoN
 ·have e : goesB P R=false:=by unfold goesB; simp [hst]
  rw [e]
  exact goes_st X R.s.st w c3 hst
def RunEnd (Y : Nat) (It : Nat→Nat→World→Prop) (Gb : Nat→Bool) (fuel : Nat) (e : Ending) (w' : World) : Prop :=
 ∃ X k wr fa nf fc ca nc cc sa ns sc st wh,It X k wr∧k≤fuel∧(∀ j,j < k→Gb j=true)∧(k=fuel∨Gb k=false) ∧
  wr.cell? ⟨X,1,none⟩=some (.slice fa nf fc)∧wr.cell? ⟨X,2,none⟩=some (.slice ca nc cc)∧wr.cell? ⟨X,3,none⟩=some (.int .i64 st)∧wr.cell? ⟨X,4,none⟩=some (.int .i64 wh)∧wr.cell? ⟨X,5,none⟩=some (.slice sa ns sc) ∧
  e=.returned (.tuple #[.agg #[.slice fa nf fc,.slice ca nc cc,.int .i64 st,.int .i64 wh],.slice sa ns sc,.int .i64 k,.int .i64 0]) ∧
  w'=((((wr.setCell ⟨Y,0,none⟩ (.slice fa nf fc)).setCell ⟨Y,1,none⟩ (.slice ca nc cc)).setCell ⟨Y,2,none⟩ (.int .i64 st)).setCell ⟨Y,3,none⟩ (.int .i64 wh)).drew
theorem set4_other {w : World} {Y : Nat} {a b c d : Value} {p : Addr} (h : ¬ p.block=Y) : ((((w.setCell ⟨Y,0,none⟩ a).setCell ⟨Y,1,none⟩ b).setCell ⟨Y,2,none⟩ c).setCell ⟨Y,3,none⟩ d).cell? p=w.cell? p :=
 World.cell?_of_block ((((Below.heap_setCell _ _ _ _ h).trans (Below.heap_setCell _ _ _ _ h)).trans (Below.heap_setCell _ _ _ _ h)).trans (Below.heap_setCell _ _ _ _ h))
set_option maxHeartbeats 4000000 in
theorem run_core (pa : Option Addr) (np pc : Nat) (fa ca : Option Addr) (nf nc fc cc : Nat) (st wh : Int) (fuel : Nat) (w W : World) (K0 : Option Addr→Nat→Option Addr→Nat→World→Prop) (It : Nat→Nat→World→Prop) (Gb : Nat→Bool)
  (HW : Hid ((w.alloc (.cells #[.slice fa nf fc,.slice ca nc cc,.int .i64 st,.int .i64 wh] 26)).alloc (.cells #[.slice none 0 0,.slice none 0 0,.int .i64 0,.int .i64 0] 26)=W))
  (HX : Hid (∀ wi,Below W.heap.size W wi→wi.cell? ⟨w.heap.size,0,none⟩=some (.slice fa nf fc)∧wi.cell? ⟨w.heap.size,1,none⟩=some (.slice ca nc cc)∧wi.cell? ⟨w.heap.size,2,none⟩=some (.int .i64 st)∧wi.cell? ⟨w.heap.size,3,none⟩=some (.int .i64 wh)))
  (HChk : Hid (Calls Tryz.prog 44 #[.slice pa np pc,.agg #[.slice fa nf fc,.slice ca nc cc,.int .i64 st,.int .i64 wh],.int .i64 fuel] W fun e w' => e=.returned (.int .i64 0)∧Below W.heap.size W w'))
  (HCp : Hid (∀ wi,Below W.heap.size W wi→Calls Tryz.prog 45 #[.agg #[.slice fa nf fc,.slice ca nc cc,.int .i64 st,.int .i64 wh]] wi fun e w' => ∃ a c b d,e=.returned (.agg #[.slice a nf c,.slice b nc d,.int .i64 st,.int .i64 wh])∧Hid (K0 a c b d w')))
  (HI0 : Hid (∀ a c b d w2,K0 a c b d w2→It w2.heap.size 0 (w2.alloc (.cells #[.slice pa np pc,.slice a nf c,.slice b nc d,.int .i64 st,.int .i64 wh,.slice none 0 0,.bool false] 81))))
  (HGo : Hid (∀ X k wr,It X k wr→Calls Tryz.prog 46 #[.pointer (some ⟨X,0,none⟩)] wr fun e w' => e=.returned (.bool (Gb k))∧Hid (It X k w')))
  (HSt : Hid (∀ X k wr,It X k wr→Gb k=true→k < fuel→Calls Tryz.prog 47 #[.pointer (some ⟨X,0,none⟩)] wr fun e w' => (∃ v,e=.returned v)∧Hid (It X (k + 1) w')))
  (HEnd : Hid (∀ X k wr,It X k wr→∃ fa nf fc ca nc cc sa ns sc st wh,wr.cell? ⟨X,1,none⟩=some (.slice fa nf fc)∧wr.cell? ⟨X,2,none⟩=some (.slice ca nc cc)∧wr.cell? ⟨X,3,none⟩=some (.int .i64 st)∧wr.cell? ⟨X,4,none⟩=some (.int .i64 wh)∧wr.cell? ⟨X,5,none⟩=some (.slice sa ns sc)))
  (HY : Hid (∀ X k wr,It X k wr→Box4 26 (w.heap.size + 1) wr (.slice none 0 0) (.slice none 0 0) (.int .i64 0) (.int .i64 0)∧¬ X=w.heap.size + 1)) (hfu : fuel≤2000) :
  Calls Tryz.prog 13 #[.slice pa np pc,.agg #[.slice fa nf fc,.slice ca nc cc,.int .i64 st,.int .i64 wh],.int .i64 fuel] w (RunEnd (w.heap.size + 1) It Gb fuel):=by
 obtain ⟨s0,s1,s2,s3⟩:=HX.out W (Below.refl _ _)
 go_enter Tryz.func13,Tryz.ntmps13
 go_upto_region 1 with (fail)
 rw [HW.out]
 go_upto_region 6 with (first
  | (go_at_call 44; refine HChk.out.mono ?_; rintro e w1 ⟨rfl,hb1⟩; obtain ⟨t0,t1,t2,t3⟩:=HX.out w1 hb1)
  | (go_at_call 45; refine (HCp.out _ hb1).mono ?_; rintro e w2 ⟨a,c,b,d,rfl,HK0⟩))
 have HI1 : Hid (It w2.heap.size 0 (w2.alloc (.cells #[.slice pa np pc,.slice a nf c,.slice b nc d,.int .i64 st,.int .i64 wh,.slice none 0 0,.bool false] 81))):=HI0.out a c b d w2 HK0.out
 generalize w2.alloc (.cells #[.slice pa np pc,.slice a nf c,.slice b nc d,.int .i64 st,.int .i64 wh,.slice none 0 0,.bool false] 81)=w3 at *
 generalize w2.heap.size=X at *
 clear s0 s1 s2 s3 t0 t1 t2 t3 hb1 HK0 HCp HChk HX HI0
 go_loopw [12] (fun q wr => ∃ k : Nat,k≤fuel∧q=.int .i64 k∧Hid (It X k wr)∧Hid (∀ j,j < k→Gb j=true)) (fun q _ => fuel - (intOf q).toNat)
 case atStart => exact ⟨0,by omega,rfl,HI1,fun j hj => absurd hj (Nat.not_lt_zero _)⟩
 case round =>
  clear HI1
  obtain ⟨k,hk,rfl,HI,HA⟩:=hrel
  by_cases hlt : k < fuel
  ·cases hg : Gb k with
   | true =>
    have HG1 : Hid (Calls Tryz.prog 46 #[.pointer (some ⟨X,0,none⟩)] wr fun e w' => e=.returned (.bool true)∧Hid (It X k w')):=by
     have:=HGo.out X k wr HI.out
     rw [hg] at this; exact this
    have HS1 : Hid (∀ wi,It X k wi→Calls Tryz.prog 47 #[.pointer (some ⟨X,0,none⟩)] wi fun e w' => (∃ v,e=.returned v)∧Hid (It X (k + 1) w')):=fun wi h => HSt.out X k wi h hg hlt
    have HAg : Hid (∀ j,j < k + 1→Gb j=true):=fun j hj => by
     by_cases e : j=k
     ·rw [e]; exact hg
     ·exact HA.out j (by omega)
    clear hg
    go_wp2_with (first
     | (go_at_call 46; refine HG1.out.mono ?_; rintro e w5 ⟨rfl,HI5⟩)
     | (go_at_call 47; refine (HS1.out _ HI5.out).mono ?_; rintro e w6 ⟨⟨v6,rfl⟩,HI6⟩))
    go_roundw
    case rel => exact ⟨k + 1,by omega,by go_num,HI6,HAg⟩
    case measure => simp [intOf]; omega
   | false =>
    have HG1 : Hid (Calls Tryz.prog 46 #[.pointer (some ⟨X,0,none⟩)] wr fun e w' => e=.returned (.bool false)∧Hid (It X k w')):=by
     have:=HGo.out X k wr HI.out
     rw [hg] at this; exact this
    have HE : Hid (k=fuel∨Gb k=false):=Or.inr hg
    have HL : Hid (k≤fuel):=hk
    clear hg
    go_upto_region 9 with (go_at_call 46; refine HG1.out.mono ?_; rintro e w5 ⟨rfl,HI5⟩)
    obtain ⟨fa2,nf2,fc2,ca2,nc2,cc2,sa2,ns2,sc2,st2,wh2,x1,x2,x3,x4,x5⟩:=HEnd.out X k w5 HI5.out
    obtain ⟨hy,hXY⟩:=HY.out X k w5 HI5.out
    obtain ⟨y0,y1,y2,y3,y4⟩:=hy.at
    have z0:=y4 0
    have z1:=y4 1
    have z2:=y4 2
    have z3:=y4 3
    have HCe : Hid (w5.cell? ⟨X,1,none⟩=some (.slice fa2 nf2 fc2)∧w5.cell? ⟨X,2,none⟩=some (.slice ca2 nc2 cc2)∧w5.cell? ⟨X,3,none⟩=some (.int .i64 st2)∧w5.cell? ⟨X,4,none⟩=some (.int .i64 wh2)∧w5.cell? ⟨X,5,none⟩=some (.slice sa2 ns2 sc2)):=⟨x1,x2,x3,x4,x5⟩
    have HYh : Hid (((((w5.setCell ⟨w.heap.size + 1,0,none⟩ (.slice fa2 nf2 fc2)).setCell ⟨w.heap.size + 1,1,none⟩ (.slice ca2 nc2 cc2)).setCell ⟨w.heap.size + 1,2,none⟩ (.int .i64 st2)).setCell ⟨w.heap.size + 1,3,none⟩ (.int .i64 wh2)).drew.heap[w.heap.size + 1]?=some (.cells #[.slice fa2 nf2 fc2,.slice ca2 nc2 cc2,.int .i64 st2,.int .i64 wh2] 26 (0,0))):=by
     have h0:=hy
     unfold Box4 at h0
     have h1:=heap_setCell_same w5 (w.heap.size + 1) 0 _ _ (.slice fa2 nf2 fc2) h0
     have h2:=heap_setCell_same _ (w.heap.size + 1) 1 _ _ (.slice ca2 nc2 cc2) h1
     have h3:=heap_setCell_same _ (w.heap.size + 1) 2 _ _ (.int .i64 st2) h2
     exact heap_setCell_same _ (w.heap.size + 1) 3 _ _ (.int .i64 wh2) h3
    have HCk : Hid (((((w5.setCell ⟨w.heap.size + 1,0,none⟩ (.slice fa2 nf2 fc2)).setCell ⟨w.heap.size + 1,1,none⟩ (.slice ca2 nc2 cc2)).setCell ⟨w.heap.size + 1,2,none⟩ (.int .i64 st2)).setCell ⟨w.heap.size + 1,3,none⟩ (.int .i64 wh2)).drew.cell? ⟨X,1,none⟩=some (.slice fa2 nf2 fc2)∧((((w5.setCell ⟨w.heap.size + 1,0,none⟩ (.slice fa2 nf2 fc2)).setCell ⟨w.heap.size + 1,1,none⟩ (.slice ca2 nc2 cc2)).setCell ⟨w.heap.size + 1,2,none⟩ (.int .i64 st2)).setCell ⟨w.heap.size + 1,3,none⟩ (.int .i64 wh2)).drew.cell? ⟨X,2,none⟩=some (.slice ca2 nc2 cc2)∧((((w5.setCell ⟨w.heap.size + 1,0,none⟩ (.slice fa2 nf2 fc2)).setCell ⟨w.heap.size + 1,1,none⟩ (.slice ca2 nc2 cc2)).setCell ⟨w.heap.size + 1,2,none⟩ (.int .i64 st2)).setCell ⟨w.heap.size + 1,3,none⟩ (.int .i64 wh2)).drew.cell? ⟨X,3,none⟩=some (.int .i64 st2)∧((((w5.setCell ⟨w.heap.size + 1,0,none⟩ (.slice fa2 nf2 fc2)).setCell ⟨w.heap.size + 1,1,none⟩ (.slice ca2 nc2 cc2)).setCell ⟨w.heap.size + 1,2,none⟩ (.int .i64 st2)).setCell ⟨w.heap.size + 1,3,none⟩ (.int .i64 wh2)).drew.cell? ⟨X,4,none⟩=some (.int .i64 wh2)∧((((w5.setCell ⟨w.heap.size + 1,0,none⟩ (.slice fa2 nf2 fc2)).setCell ⟨w.heap.size + 1,1,none⟩ (.slice ca2 nc2 cc2)).setCell ⟨w.heap.size + 1,2,none⟩ (.int .i64 st2)).setCell ⟨w.heap.size + 1,3,none⟩ (.int .i64 wh2)).drew.cell? ⟨X,5,none⟩=some (.slice sa2 ns2 sc2)):=by
     have kk : ∀ i,((((w5.setCell ⟨w.heap.size + 1,0,none⟩ (.slice fa2 nf2 fc2)).setCell ⟨w.heap.size + 1,1,none⟩ (.slice ca2 nc2 cc2)).setCell ⟨w.heap.size + 1,2,none⟩ (.int .i64 st2)).setCell ⟨w.heap.size + 1,3,none⟩ (.int .i64 wh2)).drew.cell? ⟨X,i,none⟩=w5.cell? ⟨X,i,none⟩:=fun i => set4_other (by show ¬ X=w.heap.size + 1; exact hXY)
     exact ⟨(kk 1).trans x1,(kk 2).trans x2,(kk 3).trans x3,(kk 4).trans x4,(kk 5).trans x5⟩
    clear y4 hy HSt HGo HEnd HY
    go_region_held3 (fun w' => w'.cell? ⟨X,1,none⟩=some (.slice fa2 nf2 fc2)∧w'.cell? ⟨X,2,none⟩=some (.slice ca2 nc2 cc2)∧w'.cell? ⟨X,3,none⟩=some (.int .i64 st2)∧w'.cell? ⟨X,4,none⟩=some (.int .i64 wh2)∧w'.cell? ⟨X,5,none⟩=some (.slice sa2 ns2 sc2))
     (first | exact HCe.out | exact HCk.out) (fail)
    all_goals
     go_wp2
     refine bodyPost_ret (results_row_tmp3 rfl _ _ (w.heap.size + 1) 26 _ (0,0) _ rfl HYh.out Tryz.underlying26 rfl (by kernel_rfl)) rfl ?_
     exact ⟨X,k,w5,fa2,nf2,fc2,ca2,nc2,cc2,sa2,ns2,sc2,st2,wh2,HI5.out,HL.out,HA.out,HE.out,HCe.out.1,HCe.out.2.1,HCe.out.2.2.1,HCe.out.2.2.2.1,HCe.out.2.2.2.2,rfl,rfl⟩
  ·obtain rfl : k=fuel:=by omega
   have HL : Hid (k≤k):=Nat.le_refl _
   have HI5:=HI
   go_upto_region 9 with (fail)
   obtain ⟨fa2,nf2,fc2,ca2,nc2,cc2,sa2,ns2,sc2,st2,wh2,x1,x2,x3,x4,x5⟩:=HEnd.out X k wr HI5.out
   obtain ⟨hy,hXY⟩:=HY.out X k wr HI5.out
   obtain ⟨y0,y1,y2,y3,y4⟩:=hy.at
   have z0:=y4 0
   have z1:=y4 1
   have z2:=y4 2
   have z3:=y4 3
   have HCe : Hid (wr.cell? ⟨X,1,none⟩=some (.slice fa2 nf2 fc2)∧wr.cell? ⟨X,2,none⟩=some (.slice ca2 nc2 cc2)∧wr.cell? ⟨X,3,none⟩=some (.int .i64 st2)∧wr.cell? ⟨X,4,none⟩=some (.int .i64 wh2)∧wr.cell? ⟨X,5,none⟩=some (.slice sa2 ns2 sc2)):=⟨x1,x2,x3,x4,x5⟩
   have HYh : Hid (((((wr.setCell ⟨w.heap.size + 1,0,none⟩ (.slice fa2 nf2 fc2)).setCell ⟨w.heap.size + 1,1,none⟩ (.slice ca2 nc2 cc2)).setCell ⟨w.heap.size + 1,2,none⟩ (.int .i64 st2)).setCell ⟨w.heap.size + 1,3,none⟩ (.int .i64 wh2)).drew.heap[w.heap.size + 1]?=some (.cells #[.slice fa2 nf2 fc2,.slice ca2 nc2 cc2,.int .i64 st2,.int .i64 wh2] 26 (0,0))):=by
    have h0:=hy
    unfold Box4 at h0
    have h1:=heap_setCell_same wr (w.heap.size + 1) 0 _ _ (.slice fa2 nf2 fc2) h0
    have h2:=heap_setCell_same _ (w.heap.size + 1) 1 _ _ (.slice ca2 nc2 cc2) h1
    have h3:=heap_setCell_same _ (w.heap.size + 1) 2 _ _ (.int .i64 st2) h2
    exact heap_setCell_same _ (w.heap.size + 1) 3 _ _ (.int .i64 wh2) h3
   have HCk : Hid (((((wr.setCell ⟨w.heap.size + 1,0,none⟩ (.slice fa2 nf2 fc2)).setCell ⟨w.heap.size + 1,1,none⟩ (.slice ca2 nc2 cc2)).setCell ⟨w.heap.size + 1,2,none⟩ (.int .i64 st2)).setCell ⟨w.heap.size + 1,3,none⟩ (.int .i64 wh2)).drew.cell? ⟨X,1,none⟩=some (.slice fa2 nf2 fc2)∧((((wr.setCell ⟨w.heap.size + 1,0,none⟩ (.slice fa2 nf2 fc2)).setCell ⟨w.heap.size + 1,1,none⟩ (.slice ca2 nc2 cc2)).setCell ⟨w.heap.size + 1,2,none⟩ (.int .i64 st2)).setCell ⟨w.heap.size + 1,3,none⟩ (.int .i64 wh2)).drew.cell? ⟨X,2,none⟩=some (.slice ca2 nc2 cc2)∧((((wr.setCell ⟨w.heap.size + 1,0,none⟩ (.slice fa2 nf2 fc2)).setCell ⟨w.heap.size + 1,1,none⟩ (.slice ca2 nc2 cc2)).setCell ⟨w.heap.size + 1,2,none⟩ (.int .i64 st2)).setCell ⟨w.heap.size + 1,3,none⟩ (.int .i64 wh2)).drew.cell? ⟨X,3,none⟩=some (.int .i64 st2)∧((((wr.setCell ⟨w.heap.size + 1,0,none⟩ (.slice fa2 nf2 fc2)).setCell ⟨w.heap.size + 1,1,none⟩ (.slice ca2 nc2 cc2)).setCell ⟨w.heap.size + 1,2,none⟩ (.int .i64 st2)).setCell ⟨w.heap.size + 1,3,none⟩ (.int .i64 wh2)).drew.cell? ⟨X,4,none⟩=some (.int .i64 wh2)∧((((wr.setCell ⟨w.heap.size + 1,0,none⟩ (.slice fa2 nf2 fc2)).setCell ⟨w.heap.size + 1,1,none⟩ (.slice ca2 nc2 cc2)).setCell ⟨w.heap.size + 1,2,none⟩ (.int .i64 st2)).setCell ⟨w.heap.size + 1,3,none⟩ (.int .i64 wh2)).drew.cell? ⟨X,5,none⟩=some (.slice sa2 ns2 sc2)):=by
    have kk : ∀ i,((((wr.setCell ⟨w.heap.size + 1,0,none⟩ (.slice fa2 nf2 fc2)).setCell ⟨w.heap.size + 1,1,none⟩ (.slice ca2 nc2 cc2)).setCell ⟨w.heap.size + 1,2,none⟩ (.int .i64 st2)).setCell ⟨w.heap.size + 1,3,none⟩ (.int .i64 wh2)).drew.cell? ⟨X,i,none⟩=wr.cell? ⟨X,i,none⟩:=fun i => set4_other (by show ¬ X=w.heap.size + 1; exact hXY)
    exact ⟨(kk 1).trans x1,(kk 2).trans x2,(kk 3).trans x3,(kk 4).trans x4,(kk 5).trans x5⟩
   clear y4 hy HSt HGo HEnd HY
   go_region_held3 (fun w' => w'.cell? ⟨X,1,none⟩=some (.slice fa2 nf2 fc2)∧w'.cell? ⟨X,2,none⟩=some (.slice ca2 nc2 cc2)∧w'.cell? ⟨X,3,none⟩=some (.int .i64 st2)∧w'.cell? ⟨X,4,none⟩=some (.int .i64 wh2)∧w'.cell? ⟨X,5,none⟩=some (.slice sa2 ns2 sc2))
    (first | exact HCe.out | exact HCk.out) (fail)
   all_goals
    go_wp2
    refine bodyPost_ret (results_row_tmp3 rfl _ _ (w.heap.size + 1) 26 _ (0,0) _ rfl HYh.out Tryz.underlying26 rfl (by kernel_rfl)) rfl ?_
    exact ⟨X,k,wr,fa2,nf2,fc2,ca2,nc2,cc2,sa2,ns2,sc2,st2,wh2,HI5.out,HL.out,HA.out,Or.inl rfl,HCe.out.1,HCe.out.2.1,HCe.out.2.2.1,HCe.out.2.2.2.1,HCe.out.2.2.2.2,rfl,rfl⟩
end Go.Proofs.YtfaokaohhchdhaaGreatDoor
namespace Go.Proofs.YtfaokaohhchdhaaGreatDoor
def idx (R : List Int) (x : Int) : Int:=(R.idxOf x : Int)
theorem idx_inj {R : List Int} {x y : Int} (hx : x ∈ R) (hy : y ∈ R) (h : idx R x=idx R y) : x=y:=by
 unfold idx at h
 have h1:=List.idxOf_lt_length_of_mem hx
 have h2:=List.idxOf_lt_length_of_mem hy
 have e1:=List.getElem_idxOf h1
 have e2:=List.getElem_idxOf h2
 have e : R.idxOf x=R.idxOf y:=by omega
 rw [← e1,← e2]
 simp only [e]
theorem idx_at {R : List Int} (hn : R.Nodup) {i : Nat} (hi : i < R.length) : idx R (R.getD i 0)=i:=by
 unfold idx
 rw [List.getD_eq_getElem?_getD,List.getElem?_eq_getElem hi,Option.getD_some,hn.idxOf_getElem i hi]
section
variable {n : Nat} {m : Nat→Nat} {K Z : Nat→Nat→Int} {f : Nat} {kf zf : Nat→Int}
theorem rt_more (t : Nat) : ∀ d,∃ S,rt m K Z f kf zf (t + d)=rt m K Z f kf zf t ++ S
 | 0 => ⟨[],by simp⟩
 | d + 1 => by
  obtain ⟨S,h⟩:=rt_more t d
  obtain ⟨S',h'⟩:=rt_prefix (m:=m) (K:=K) (Z:=Z) (f:=f) (kf:=kf) (zf:=zf) (t + d)
  exact ⟨S ++ S',by rw [show t + (d + 1)=t + d + 1 by omega,h',h,List.append_assoc]⟩
theorem rt_of_reached (hv : Valid n m K Z f kf zf) (t : Nat) : ∃ S,reached n m K Z f kf zf=rt m K Z f kf zf t ++ S:=by
 by_cases h : t≤n
 ·obtain ⟨S,e⟩:=rt_more (m:=m) (K:=K) (Z:=Z) (f:=f) (kf:=kf) (zf:=zf) t (n - t)
  rw [show t + (n - t)=n by omega] at e
  exact ⟨S,e⟩
 ·have hl:=(rt_good hv n).len
  have:=rt_stays (m:=m) (K:=K) (Z:=Z) (f:=f) (kf:=kf) (zf:=zf) (t:=n) (by omega) (t - n)
  rw [show n + (t - n)=t by omega] at this
  exact ⟨[],by rw [this,List.append_nil]; rfl⟩
theorem rt_all (hv : Valid n m K Z f kf zf) {t : Nat} (ht : (reached n m K Z f kf zf).length≤t) : rt m K Z f kf zf t=reached n m K Z f kf zf:=by
 obtain ⟨S,e⟩:=rt_of_reached hv t
 by_cases h : t≤n
 ·refine (rt_done h ?_).symm
  have : (reached n m K Z f kf zf).length=(rt m K Z f kf zf t).length + S.length:=by rw [e,List.length_append]
  omega
 ·have hl:=(rt_good hv n).len
  have:=rt_stays (m:=m) (K:=K) (Z:=Z) (f:=f) (kf:=kf) (zf:=zf) (t:=n) (by omega) (t - n)
  rw [show n + (t - n)=t by omega] at this
  exact this
end
theorem renum_kind (R : List Int) (v : Int×Int) : (renum R v).1=v.1:=by
 unfold renum; split
 ·rename_i h; exact h.symm
 ·rfl
theorem renum_num (R : List Int) {v : Int×Int} (h : v.1=2) : (renum R v).2=idx R v.2:=by unfold renum; rw [if_pos h]; rfl
theorem getD_map {α β : Type} (g : α→β) (L : List α) (i : Nat) (d : α) (e : β) (h : i < L.length) : (L.map g).getD i e=g (L.getD i d):=by
 rw [List.getD_eq_getElem?_getD,List.getElem?_map,List.getElem?_eq_getElem h,List.getD_eq_getElem?_getD,List.getElem?_eq_getElem h]; rfl
section
variable {np : Nat} {P : Nat→Pc} {S : Sta}
end
end Go.Proofs.YtfaokaohhchdhaaGreatDoor
