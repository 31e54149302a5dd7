/- Run. -/
import Derived.Test.YtipnjoahobplhaaGreatDoorPart23
import Derived.Test.YtipnjoahobplhaaGreatDoorVmCopied
import Derived.Test.YtipnjoahobplhaaGreatDoorPart17
import Derived.Test.YtipnjoahobplhaaGreatDoorPart2
namespace Go.Proofs.YtipnjoahobplhaaGreatDoor
open Go.RowKit Go.Maps
def RunEnd (Y : Nat) (It : Nat→Nat→World→Prop) (Gb : Nat→Bool) (fuel : Nat) (e : Ending) (w' : World) : Prop :=
 ∃ X k wr fa nf fc ca nc cc sa ns sc st wh,It X k wr∧k ≤ fuel∧(∀ j,j < k→Gb j = true)∧(k = fuel ∨ Gb k = false) ∧
  wr.cell? ⟨X,1,none⟩ = some (.slice fa nf fc)∧wr.cell? ⟨X,2,none⟩ = some (.slice ca nc cc)∧wr.cell? ⟨X,3,none⟩ = some (.int .i64 st)∧wr.cell? ⟨X,4,none⟩ = some (.int .i64 wh)∧wr.cell? ⟨X,5,none⟩ = some (.slice sa ns sc) ∧
  e = .returned (.tuple #[.agg #[.slice fa nf fc,.slice ca nc cc,.int .i64 st,.int .i64 wh],.slice sa ns sc,.int .i64 k,.int .i64 0]) ∧
  w' = ((((wr.setCell ⟨Y,0,none⟩ (.slice fa nf fc)).setCell ⟨Y,1,none⟩ (.slice ca nc cc)).setCell ⟨Y,2,none⟩ (.int .i64 st)).setCell ⟨Y,3,none⟩ (.int .i64 wh)).drew
theorem set4_other {w : World} {Y : Nat} {a b c d : Value} {p : Addr} (h : ¬ p.block = Y) : ((((w.setCell ⟨Y,0,none⟩ a).setCell ⟨Y,1,none⟩ b).setCell ⟨Y,2,none⟩ c).setCell ⟨Y,3,none⟩ d).cell? p = w.cell? p :=
 World.cell?_of_block ((((Below.heap_setCell _ _ _ _ h).trans (Below.heap_setCell _ _ _ _ h)).trans (Below.heap_setCell _ _ _ _ h)).trans (Below.heap_setCell _ _ _ _ h))
set_option maxHeartbeats 4000000 in
theorem run_core (pa : Option Addr) (np pc : Nat) (fa ca : Option Addr) (nf nc fc cc : Nat) (st wh : Int) (fuel : Nat) (w W : World) (K0 : Option Addr→Nat→Option Addr→Nat→World→Prop) (It : Nat→Nat→World→Prop) (Gb : Nat→Bool)
  (HW : Hid ((w.alloc (.cells #[.slice fa nf fc,.slice ca nc cc,.int .i64 st,.int .i64 wh] 26)).alloc (.cells #[.slice none 0 0,.slice none 0 0,.int .i64 0,.int .i64 0] 26) = W))
  (HX : Hid (∀ wi,Below W.heap.size W wi→wi.cell? ⟨w.heap.size,0,none⟩ = some (.slice fa nf fc)∧wi.cell? ⟨w.heap.size,1,none⟩ = some (.slice ca nc cc)∧wi.cell? ⟨w.heap.size,2,none⟩ = some (.int .i64 st)∧wi.cell? ⟨w.heap.size,3,none⟩ = some (.int .i64 wh)))
  (HChk : Hid (Calls Tryz.prog 39 #[.slice pa np pc,.agg #[.slice fa nf fc,.slice ca nc cc,.int .i64 st,.int .i64 wh],.int .i64 fuel] W fun e w' => e = .returned (.int .i64 0)∧Below W.heap.size W w'))
  (HCp : Hid (∀ wi,Below W.heap.size W wi→Calls Tryz.prog 40 #[.agg #[.slice fa nf fc,.slice ca nc cc,.int .i64 st,.int .i64 wh]] wi fun e w' => ∃ a c b d,e = .returned (.agg #[.slice a nf c,.slice b nc d,.int .i64 st,.int .i64 wh])∧Hid (K0 a c b d w')))
  (HI0 : Hid (∀ a c b d w2,K0 a c b d w2→It w2.heap.size 0 (w2.alloc (.cells #[.slice pa np pc,.slice a nf c,.slice b nc d,.int .i64 st,.int .i64 wh,.slice none 0 0,.bool false] 78))))
  (HGo : Hid (∀ X k wr,It X k wr→Calls Tryz.prog 41 #[.pointer (some ⟨X,0,none⟩)] wr fun e w' => e = .returned (.bool (Gb k))∧Hid (It X k w')))
  (HSt : Hid (∀ X k wr,It X k wr→Gb k = true→k < fuel→Calls Tryz.prog 42 #[.pointer (some ⟨X,0,none⟩)] wr fun e w' => (∃ v,e = .returned v)∧Hid (It X (k + 1) w')))
  (HEnd : Hid (∀ X k wr,It X k wr→∃ fa nf fc ca nc cc sa ns sc st wh,wr.cell? ⟨X,1,none⟩ = some (.slice fa nf fc)∧wr.cell? ⟨X,2,none⟩ = some (.slice ca nc cc)∧wr.cell? ⟨X,3,none⟩ = some (.int .i64 st)∧wr.cell? ⟨X,4,none⟩ = some (.int .i64 wh)∧wr.cell? ⟨X,5,none⟩ = some (.slice sa ns sc)))
  (HY : Hid (∀ X k wr,It X k wr→Box4 26 (w.heap.size + 1) wr (.slice none 0 0) (.slice none 0 0) (.int .i64 0) (.int .i64 0)∧¬ X = w.heap.size + 1)) (hfu : fuel ≤ 2000) :
  Calls Tryz.prog 14 #[.slice pa np pc,.agg #[.slice fa nf fc,.slice ca nc cc,.int .i64 st,.int .i64 wh],.int .i64 fuel] w (RunEnd (w.heap.size + 1) It Gb fuel):=by
 obtain ⟨s0,s1,s2,s3⟩:=HX.out W (Below.refl _ _)
 go_enter Tryz.func14,Tryz.ntmps14
 go_upto_region 1 with (fail)
 rw [HW.out]
 go_upto_region 6 with (first
  | (go_at_call 39; refine HChk.out.mono ?_; rintro e w1 ⟨rfl,hb1⟩; obtain ⟨t0,t1,t2,t3⟩:=HX.out w1 hb1)
  | (go_at_call 40; refine (HCp.out _ hb1).mono ?_; rintro e w2 ⟨a,c,b,d,rfl,HK0⟩))
 have HI1 : Hid (It w2.heap.size 0 (w2.alloc (.cells #[.slice pa np pc,.slice a nf c,.slice b nc d,.int .i64 st,.int .i64 wh,.slice none 0 0,.bool false] 78))):=HI0.out a c b d w2 HK0.out
 generalize w2.alloc (.cells #[.slice pa np pc,.slice a nf c,.slice b nc d,.int .i64 st,.int .i64 wh,.slice none 0 0,.bool false] 78) = w3 at *
 generalize w2.heap.size = X at *
 clear s0 s1 s2 s3 t0 t1 t2 t3 hb1 HK0 HCp HChk HX HI0
 go_loopw [12] (fun q wr => ∃ k : Nat,k ≤ fuel∧q = .int .i64 k∧Hid (It X k wr)∧Hid (∀ j,j < k→Gb j = true)) (fun q _ => fuel - (intOf q).toNat)
 case atStart => exact ⟨0,by omega,rfl,HI1,fun j hj => absurd hj (Nat.not_lt_zero _)⟩
 case round =>
  clear HI1
  obtain ⟨k,hk,rfl,HI,HA⟩:=hrel
  by_cases hlt : k < fuel
  ·cases hg : Gb k with
   | true =>
    have HG1 : Hid (Calls Tryz.prog 41 #[.pointer (some ⟨X,0,none⟩)] wr fun e w' => e = .returned (.bool true)∧Hid (It X k w')):=by
     have:=HGo.out X k wr HI.out
     rw [hg] at this; exact this
    have HS1 : Hid (∀ wi,It X k wi→Calls Tryz.prog 42 #[.pointer (some ⟨X,0,none⟩)] wi fun e w' => (∃ v,e = .returned v)∧Hid (It X (k + 1) w')):=fun wi h => HSt.out X k wi h hg hlt
    have HAg : Hid (∀ j,j < k + 1→Gb j = true):=fun j hj => by
     by_cases e : j = k
     ·rw [e]; exact hg
     ·exact HA.out j (by omega)
    clear hg
    go_wp2_with (first
     | (go_at_call 41; refine HG1.out.mono ?_; rintro e w5 ⟨rfl,HI5⟩)
     | (go_at_call 42; refine (HS1.out _ HI5.out).mono ?_; rintro e w6 ⟨⟨v6,rfl⟩,HI6⟩))
    go_roundw
    case rel => exact ⟨k + 1,by omega,by go_num,HI6,HAg⟩
    case measure => simp [intOf]; omega
   | false =>
    have HG1 : Hid (Calls Tryz.prog 41 #[.pointer (some ⟨X,0,none⟩)] wr fun e w' => e = .returned (.bool false)∧Hid (It X k w')):=by
     have:=HGo.out X k wr HI.out
     rw [hg] at this; exact this
    have HE : Hid (k = fuel ∨ Gb k = false):=Or.inr hg
    have HL : Hid (k ≤ fuel):=hk
    clear hg
    go_upto_region 9 with (go_at_call 41; refine HG1.out.mono ?_; rintro e w5 ⟨rfl,HI5⟩)
    obtain ⟨fa2,nf2,fc2,ca2,nc2,cc2,sa2,ns2,sc2,st2,wh2,x1,x2,x3,x4,x5⟩:=HEnd.out X k w5 HI5.out
    obtain ⟨hy,hXY⟩:=HY.out X k w5 HI5.out
    obtain ⟨y0,y1,y2,y3,y4⟩:=hy.at
    have z0:=y4 0
    have z1:=y4 1
    have z2:=y4 2
    have z3:=y4 3
    have HCe : Hid (w5.cell? ⟨X,1,none⟩ = some (.slice fa2 nf2 fc2)∧w5.cell? ⟨X,2,none⟩ = some (.slice ca2 nc2 cc2)∧w5.cell? ⟨X,3,none⟩ = some (.int .i64 st2)∧w5.cell? ⟨X,4,none⟩ = some (.int .i64 wh2)∧w5.cell? ⟨X,5,none⟩ = some (.slice sa2 ns2 sc2)):=⟨x1,x2,x3,x4,x5⟩
    have HYh : Hid (((((w5.setCell ⟨w.heap.size + 1,0,none⟩ (.slice fa2 nf2 fc2)).setCell ⟨w.heap.size + 1,1,none⟩ (.slice ca2 nc2 cc2)).setCell ⟨w.heap.size + 1,2,none⟩ (.int .i64 st2)).setCell ⟨w.heap.size + 1,3,none⟩ (.int .i64 wh2)).drew.heap[w.heap.size + 1]? = some (.cells #[.slice fa2 nf2 fc2,.slice ca2 nc2 cc2,.int .i64 st2,.int .i64 wh2] 26 (0,0))):=by
     have h0:=hy
     unfold Box4 at h0
     have h1:=heap_setCell_same w5 (w.heap.size + 1) 0 _ _ (.slice fa2 nf2 fc2) h0
     have h2:=heap_setCell_same _ (w.heap.size + 1) 1 _ _ (.slice ca2 nc2 cc2) h1
     have h3:=heap_setCell_same _ (w.heap.size + 1) 2 _ _ (.int .i64 st2) h2
     exact heap_setCell_same _ (w.heap.size + 1) 3 _ _ (.int .i64 wh2) h3
    have HCk : Hid (((((w5.setCell ⟨w.heap.size + 1,0,none⟩ (.slice fa2 nf2 fc2)).setCell ⟨w.heap.size + 1,1,none⟩ (.slice ca2 nc2 cc2)).setCell ⟨w.heap.size + 1,2,none⟩ (.int .i64 st2)).setCell ⟨w.heap.size + 1,3,none⟩ (.int .i64 wh2)).drew.cell? ⟨X,1,none⟩ = some (.slice fa2 nf2 fc2)∧((((w5.setCell ⟨w.heap.size + 1,0,none⟩ (.slice fa2 nf2 fc2)).setCell ⟨w.heap.size + 1,1,none⟩ (.slice ca2 nc2 cc2)).setCell ⟨w.heap.size + 1,2,none⟩ (.int .i64 st2)).setCell ⟨w.heap.size + 1,3,none⟩ (.int .i64 wh2)).drew.cell? ⟨X,2,none⟩ = some (.slice ca2 nc2 cc2)∧((((w5.setCell ⟨w.heap.size + 1,0,none⟩ (.slice fa2 nf2 fc2)).setCell ⟨w.heap.size + 1,1,none⟩ (.slice ca2 nc2 cc2)).setCell ⟨w.heap.size + 1,2,none⟩ (.int .i64 st2)).setCell ⟨w.heap.size + 1,3,none⟩ (.int .i64 wh2)).drew.cell? ⟨X,3,none⟩ = some (.int .i64 st2)∧((((w5.setCell ⟨w.heap.size + 1,0,none⟩ (.slice fa2 nf2 fc2)).setCell ⟨w.heap.size + 1,1,none⟩ (.slice ca2 nc2 cc2)).setCell ⟨w.heap.size + 1,2,none⟩ (.int .i64 st2)).setCell ⟨w.heap.size + 1,3,none⟩ (.int .i64 wh2)).drew.cell? ⟨X,4,none⟩ = some (.int .i64 wh2)∧((((w5.setCell ⟨w.heap.size + 1,0,none⟩ (.slice fa2 nf2 fc2)).setCell ⟨w.heap.size + 1,1,none⟩ (.slice ca2 nc2 cc2)).setCell ⟨w.heap.size + 1,2,none⟩ (.int .i64 st2)).setCell ⟨w.heap.size + 1,3,none⟩ (.int .i64 wh2)).drew.cell? ⟨X,5,none⟩ = some (.slice sa2 ns2 sc2)):=by
     have kk : ∀ i,((((w5.setCell ⟨w.heap.size + 1,0,none⟩ (.slice fa2 nf2 fc2)).setCell ⟨w.heap.size + 1,1,none⟩ (.slice ca2 nc2 cc2)).setCell ⟨w.heap.size + 1,2,none⟩ (.int .i64 st2)).setCell ⟨w.heap.size + 1,3,none⟩ (.int .i64 wh2)).drew.cell? ⟨X,i,none⟩ = w5.cell? ⟨X,i,none⟩:=fun i => set4_other (by show ¬ X = w.heap.size + 1; exact hXY)
     exact ⟨(kk 1).trans x1,(kk 2).trans x2,(kk 3).trans x3,(kk 4).trans x4,(kk 5).trans x5⟩
    clear y4 hy HSt HGo HEnd HY
    go_region_held3 (fun w' => w'.cell? ⟨X,1,none⟩ = some (.slice fa2 nf2 fc2)∧w'.cell? ⟨X,2,none⟩ = some (.slice ca2 nc2 cc2)∧w'.cell? ⟨X,3,none⟩ = some (.int .i64 st2)∧w'.cell? ⟨X,4,none⟩ = some (.int .i64 wh2)∧w'.cell? ⟨X,5,none⟩ = some (.slice sa2 ns2 sc2))
     (first | exact HCe.out | exact HCk.out) (fail)
    all_goals
     go_wp2
     refine bodyPost_ret (results_row_tmp3 rfl _ _ (w.heap.size + 1) 26 _ (0,0) _ rfl HYh.out Tryz.underlying26 rfl (by kernel_rfl)) rfl ?_
     exact ⟨X,k,w5,fa2,nf2,fc2,ca2,nc2,cc2,sa2,ns2,sc2,st2,wh2,HI5.out,HL.out,HA.out,HE.out,HCe.out.1,HCe.out.2.1,HCe.out.2.2.1,HCe.out.2.2.2.1,HCe.out.2.2.2.2,rfl,rfl⟩
  ·obtain rfl : k = fuel:=by omega
   have HL : Hid (k ≤ k):=Nat.le_refl _
   have HI5:=HI
   go_upto_region 9 with (fail)
   obtain ⟨fa2,nf2,fc2,ca2,nc2,cc2,sa2,ns2,sc2,st2,wh2,x1,x2,x3,x4,x5⟩:=HEnd.out X k wr HI5.out
   obtain ⟨hy,hXY⟩:=HY.out X k wr HI5.out
   obtain ⟨y0,y1,y2,y3,y4⟩:=hy.at
   have z0:=y4 0
   have z1:=y4 1
   have z2:=y4 2
   have z3:=y4 3
   have HCe : Hid (wr.cell? ⟨X,1,none⟩ = some (.slice fa2 nf2 fc2)∧wr.cell? ⟨X,2,none⟩ = some (.slice ca2 nc2 cc2)∧wr.cell? ⟨X,3,none⟩ = some (.int .i64 st2)∧wr.cell? ⟨X,4,none⟩ = some (.int .i64 wh2)∧wr.cell? ⟨X,5,none⟩ = some (.slice sa2 ns2 sc2)):=⟨x1,x2,x3,x4,x5⟩
   have HYh : Hid (((((wr.setCell ⟨w.heap.size + 1,0,none⟩ (.slice fa2 nf2 fc2)).setCell ⟨w.heap.size + 1,1,none⟩ (.slice ca2 nc2 cc2)).setCell ⟨w.heap.size + 1,2,none⟩ (.int .i64 st2)).setCell ⟨w.heap.size + 1,3,none⟩ (.int .i64 wh2)).drew.heap[w.heap.size + 1]? = some (.cells #[.slice fa2 nf2 fc2,.slice ca2 nc2 cc2,.int .i64 st2,.int .i64 wh2] 26 (0,0))):=by
    have h0:=hy
    unfold Box4 at h0
    have h1:=heap_setCell_same wr (w.heap.size + 1) 0 _ _ (.slice fa2 nf2 fc2) h0
    have h2:=heap_setCell_same _ (w.heap.size + 1) 1 _ _ (.slice ca2 nc2 cc2) h1
    have h3:=heap_setCell_same _ (w.heap.size + 1) 2 _ _ (.int .i64 st2) h2
    exact heap_setCell_same _ (w.heap.size + 1) 3 _ _ (.int .i64 wh2) h3
   have HCk : Hid (((((wr.setCell ⟨w.heap.size + 1,0,none⟩ (.slice fa2 nf2 fc2)).setCell ⟨w.heap.size + 1,1,none⟩ (.slice ca2 nc2 cc2)).setCell ⟨w.heap.size + 1,2,none⟩ (.int .i64 st2)).setCell ⟨w.heap.size + 1,3,none⟩ (.int .i64 wh2)).drew.cell? ⟨X,1,none⟩ = some (.slice fa2 nf2 fc2)∧((((wr.setCell ⟨w.heap.size + 1,0,none⟩ (.slice fa2 nf2 fc2)).setCell ⟨w.heap.size + 1,1,none⟩ (.slice ca2 nc2 cc2)).setCell ⟨w.heap.size + 1,2,none⟩ (.int .i64 st2)).setCell ⟨w.heap.size + 1,3,none⟩ (.int .i64 wh2)).drew.cell? ⟨X,2,none⟩ = some (.slice ca2 nc2 cc2)∧((((wr.setCell ⟨w.heap.size + 1,0,none⟩ (.slice fa2 nf2 fc2)).setCell ⟨w.heap.size + 1,1,none⟩ (.slice ca2 nc2 cc2)).setCell ⟨w.heap.size + 1,2,none⟩ (.int .i64 st2)).setCell ⟨w.heap.size + 1,3,none⟩ (.int .i64 wh2)).drew.cell? ⟨X,3,none⟩ = some (.int .i64 st2)∧((((wr.setCell ⟨w.heap.size + 1,0,none⟩ (.slice fa2 nf2 fc2)).setCell ⟨w.heap.size + 1,1,none⟩ (.slice ca2 nc2 cc2)).setCell ⟨w.heap.size + 1,2,none⟩ (.int .i64 st2)).setCell ⟨w.heap.size + 1,3,none⟩ (.int .i64 wh2)).drew.cell? ⟨X,4,none⟩ = some (.int .i64 wh2)∧((((wr.setCell ⟨w.heap.size + 1,0,none⟩ (.slice fa2 nf2 fc2)).setCell ⟨w.heap.size + 1,1,none⟩ (.slice ca2 nc2 cc2)).setCell ⟨w.heap.size + 1,2,none⟩ (.int .i64 st2)).setCell ⟨w.heap.size + 1,3,none⟩ (.int .i64 wh2)).drew.cell? ⟨X,5,none⟩ = some (.slice sa2 ns2 sc2)):=by
    have kk : ∀ i,((((wr.setCell ⟨w.heap.size + 1,0,none⟩ (.slice fa2 nf2 fc2)).setCell ⟨w.heap.size + 1,1,none⟩ (.slice ca2 nc2 cc2)).setCell ⟨w.heap.size + 1,2,none⟩ (.int .i64 st2)).setCell ⟨w.heap.size + 1,3,none⟩ (.int .i64 wh2)).drew.cell? ⟨X,i,none⟩ = wr.cell? ⟨X,i,none⟩:=fun i => set4_other (by show ¬ X = w.heap.size + 1; exact hXY)
    exact ⟨(kk 1).trans x1,(kk 2).trans x2,(kk 3).trans x3,(kk 4).trans x4,(kk 5).trans x5⟩
   clear y4 hy HSt HGo HEnd HY
   go_region_held3 (fun w' => w'.cell? ⟨X,1,none⟩ = some (.slice fa2 nf2 fc2)∧w'.cell? ⟨X,2,none⟩ = some (.slice ca2 nc2 cc2)∧w'.cell? ⟨X,3,none⟩ = some (.int .i64 st2)∧w'.cell? ⟨X,4,none⟩ = some (.int .i64 wh2)∧w'.cell? ⟨X,5,none⟩ = some (.slice sa2 ns2 sc2))
    (first | exact HCe.out | exact HCk.out) (fail)
   all_goals
    go_wp2
    refine bodyPost_ret (results_row_tmp3 rfl _ _ (w.heap.size + 1) 26 _ (0,0) _ rfl HYh.out Tryz.underlying26 rfl (by kernel_rfl)) rfl ?_
    exact ⟨X,k,wr,fa2,nf2,fc2,ca2,nc2,cc2,sa2,ns2,sc2,st2,wh2,HI5.out,HL.out,HA.out,Or.inl rfl,HCe.out.1,HCe.out.2.1,HCe.out.2.2.1,HCe.out.2.2.2.1,HCe.out.2.2.2.2,rfl,rfl⟩
def RunPost (w : World) (S' : Sta) (said : List Int) (k : Nat) (e : Ending) (w' : World) : Prop :=
 ∃ fa nf fc ca nc cc sa sc rv xv,e = .returned (.tuple #[.agg #[.slice fa nf fc,.slice ca nc cc,.int .i64 S'.st,.int .i64 S'.wh],.slice sa said.length sc,.int .i64 k,.int .i64 0]) ∧
  Own w.heap.size w' (.slice fa nf fc) (.slice ca nc cc) rv xv S'∧w'.ownsRow w.heap.size 3 1 (.slice sa said.length sc) said.length (said.map (Value.int .i64))∧Below w.heap.size w w'
theorem vmErr_right {np : Nat} {P : Nat→Pc} {S : Sta} (h : vmErr np P S = 0) : CodeOK np P∧StaOK np P S∧codeErr np P = 0:=by
 unfold vmErr at h
 by_cases hc : codeErr np P = 0
 ·rw [if_pos hc] at h
  exact ⟨codeErr_right hc,staErr_zero.1 h,hc⟩
 ·rw [if_neg hc] at h; exact absurd h hc
theorem runErr_right {np : Nat} {P : Nat→Pc} {S : Sta} {fuel : Int} (h : runErr np P S fuel = 0) : CodeOK np P∧StaOK np P S∧S.st = 0∧0 ≤ fuel∧fuel ≤ 2000∧vmErr np P S = 0:=by
 unfold runErr at h
 by_cases hv : vmErr np P S = 0
 ·rw [if_pos hv] at h
  obtain ⟨h1,h2,_⟩:=vmErr_right hv
  by_cases hf : fuel < 0 ∨ 2000 < fuel
  ·rw [if_pos hf] at h; cases h
  ·rw [if_neg hf] at h
   by_cases hs : S.st = 0
   ·exact ⟨h1,h2,hs,by omega,by omega,hv⟩
   ·rw [if_neg hs] at h; cases h
 ·rw [if_neg hv] at h; exact absurd h hv
def RunIt (P : Nat→Pc) (pv : Value) (S : Sta) (B : Nat) (W : World) (X k : Nat) (wr : World) : Prop :=
 RA X B wr pv (itM P ⟨S,[],false⟩ k)∧Below B W wr∧∀ j,j < k→goesB P (itM P ⟨S,[],false⟩ j) = true
theorem runP {np : Nat} {P : Nat→Pc} (hNew : NewC np P) (hCall : CallC np P) (M : Nat) (vp fv cv : Value) (S : Sta) (fuel : Nat) (w : World) (hM : M ≤ w.heap.size) (hp : ProcsAt M w vp np P) (hs : StaAt w fv cv S) (he : runErr np P S fuel = 0) :
  Calls Tryz.prog 14 #[vp,staV fv cv S.st S.wh,.int .i64 fuel] w (RunPost w (runM P fuel ⟨S,[],false⟩).1.s (runM P fuel ⟨S,[],false⟩).1.said (runM P fuel ⟨S,[],false⟩).2):=by
 obtain ⟨hc,hok,hst,_,hfu,_⟩:=runErr_right he
 obtain ⟨pa,pc,rfl,_⟩:=id hp
 obtain ⟨fa,fc,rfl,_⟩:=id hs.1
 obtain ⟨ca,cc,rfl,_⟩:=id hs.2
 obtain ⟨W1,hW1,b1,hsz1,i0,i1,i2,i3⟩:=sbox w (.slice fa S.fs.length fc) (.slice ca S.cs.length cc) S.st S.wh
 obtain ⟨W,hW⟩ : ∃ W,W1.alloc (.cells #[.slice none 0 0,.slice none 0 0,.int .i64 0,.int .i64 0] 26) = W:=⟨_,rfl⟩
 have b2 : Below W1.heap.size W1 W:=hW ▸ below_alloc W1 _
 have b0 : Below w.heap.size w W:=below_step b1 b2
 have hsz : W.heap.size = w.heap.size + 2:=by rw [← hW]; simp; omega
 have hY : Box4 26 (w.heap.size + 1) W (.slice none 0 0) (.slice none 0 0) (.int .i64 0) (.int .i64 0):=by
  unfold Box4
  rw [← hW,← hsz1]
  exact heap_alloc_new W1 _
 have hWe : (w.alloc (.cells #[.slice fa S.fs.length fc,.slice ca S.cs.length cc,.int .i64 S.st,.int .i64 S.wh] 26)).alloc (.cells #[.slice none 0 0,.slice none 0 0,.int .i64 0,.int .i64 0] 26) = W:=by rw [hW1]; exact hW
 have hpW : ∀ wi,Below W.heap.size W wi→ProcsAt M wi (.slice pa np pc) np P:=fun wi hw => hp.below ((b0.mono hM).trans (hw.mono (by omega)))
 have hsW : ∀ wi,Below W.heap.size W wi→StaAt wi (.slice fa S.fs.length fc) (.slice ca S.cs.length cc) S:=fun wi hw => hs.below (below_step b0 hw)
 have hok' : ∀ k,(∀ j,j < k→goesB P (itM P ⟨S,[],false⟩ j) = true)→StaOK np P (itM P ⟨S,[],false⟩ k).s∧(itM P ⟨S,[],false⟩ k).said.length ≤ 40:=itM_right hc (R:=⟨S,[],false⟩) hok (Nat.zero_le _)
 have hup : ∀ wi wj,Below W.heap.size W wi→Below wi.heap.size wi wj→Below W.heap.size W wj:=fun wi wj h k => below_up h k (Nat.le_refl _)
 have hrun:=run_core pa np pc fa ca S.fs.length S.cs.length fc cc S.st S.wh fuel w W (fun a c b d w2 => (∃ rv xv,Own W.heap.size w2 (.slice a S.fs.length c) (.slice b S.cs.length d) rv xv S)∧Below W.heap.size W w2) (RunIt P (.slice pa np pc) S W.heap.size W) (fun k => goesB P (itM P ⟨S,[],false⟩ k))
  hWe (fun wi hw => ⟨below_at hw (below_at b2 i0),below_at hw (below_at b2 i1),below_at hw (below_at b2 i2),below_at hw (below_at b2 i3)⟩)
  (by
   have:=checkRun M _ _ _ np P S fuel W (Nat.le_trans hM b0.size) (hpW W (Below.refl _ _)) (hsW W (Below.refl _ _))
   rw [he] at this
   exact this)
  (fun wi hw => by
   refine (copied S _ _ wi (hsW wi hw) hc hok).mono ?_
   rintro e w' ⟨fv',cv',rv,xv,rfl,ho,hb⟩
   obtain ⟨a,c,rfl⟩:=own_shape ho.out.fr
   obtain ⟨b,d,rfl⟩:=own_shape ho.out.ce
   exact ⟨a,c,b,d,rfl,⟨rv,xv,ho.out.lower hw.size⟩,hup _ _ hw hb⟩)
  (fun a c b d w2 hk => by
   obtain ⟨⟨rv,xv,ho⟩,hb⟩:=hk
   exact ⟨⟨_,_,_,rv,xv,heap_alloc_new w2 _,ho.below (below_alloc w2 _),World.ownsRow_nil _ _ _ _,hb.size⟩,hup _ _ hb (below_alloc w2 _),fun j hj => absurd hj (Nat.not_lt_zero _)⟩)
  (fun X k wr hi => by
   obtain ⟨hr,hb,hg⟩:=hi
   refine (goesP M X W.heap.size wr _ _ hc (hok' k hg).1 hr (hpW wr hb)).mono ?_
   rintro e w' ⟨rfl,hb'⟩
   exact ⟨rfl,hr.below hb',hup _ _ hb hb',hg⟩)
  (fun X k wr hi hgo _ => by
   obtain ⟨hr,hb,hg⟩:=hi
   refine (stepP hNew hCall M X W.heap.size wr _ _ hc (hok' k hg).1 (goesB_ready hgo) hr (hpW wr hb) (by omega) (by have:=(hok' k hg).2; omega)).mono ?_
   rintro e w' ⟨he',hr',hb'⟩
   refine ⟨he',hr',hb.trans hb',fun j hj => ?_⟩
   by_cases e : j = k
   ·rw [e]; exact hgo
   ·exact hg j (by omega))
  (fun X k wr hi => by
   obtain ⟨⟨fv,cv,sv,rv,xv,hr⟩,hb,hg⟩:=hi
   obtain ⟨c0,c1,c2,c3,c4,c5,c6,c7⟩:=hr.cells
   obtain ⟨a,c,rfl⟩:=own_shape hr.own.fr
   obtain ⟨b,d,rfl⟩:=own_shape hr.own.ce
   obtain ⟨s,t,rfl⟩:=own_shape hr.sd
   exact ⟨_,_,_,_,_,_,_,_,_,_,_,c1,c2,c3,c4,c5⟩)
  (fun X k wr hi => by
   obtain ⟨⟨fv,cv,sv,rv,xv,hr⟩,hb,hg⟩:=hi
   refine ⟨hY.keep (hb.block _ (by omega)),fun e => ?_⟩
   have:=hr.hX
   omega) (by omega)
 refine hrun.mono ?_
 rintro e w' ⟨X,k,wr,fa2,nf2,fc2,ca2,nc2,cc2,sa2,ns2,sc2,st2,wh2,⟨⟨fv,cv,sv,rv,xv,hr⟩,hb,hg⟩,hk,hgo,hend,d1,d2,d3,d4,d5,rfl,rfl⟩
 rw [runM_at hk hgo hend]
 obtain ⟨c0,c1,c2,c3,c4,c5,c6,c7⟩:=hr.cells
 rw [c1] at d1
 rw [c2] at d2
 rw [c3] at d3
 rw [c4] at d4
 rw [c5] at d5
 injection d1 with d1
 injection d2 with d2
 injection d3 with d3
 injection d4 with d4
 injection d5 with d5
 injection d3 with _ d3
 injection d4 with _ d4
 subst d1 d2 d5
 have hns : ns2 = (itM P ⟨S,[],false⟩ k).said.length:=by
  obtain ⟨s,t,e⟩:=own_shape hr.sd
  injection e
 subst hns
 have hot : ∀ j,W.heap.size ≤ j→((((wr.setCell ⟨w.heap.size + 1,0,none⟩ (.slice fa2 nf2 fc2)).setCell ⟨w.heap.size + 1,1,none⟩ (.slice ca2 nc2 cc2)).setCell ⟨w.heap.size + 1,2,none⟩ (.int .i64 st2)).setCell ⟨w.heap.size + 1,3,none⟩ (.int .i64 wh2)).drew.heap[j]? = wr.heap[j]?:=fun j hj => by
  have hne : ¬ j = w.heap.size + 1:=by omega
  exact (((Below.heap_setCell _ _ _ _ hne).trans (Below.heap_setCell _ _ _ _ hne)).trans (Below.heap_setCell _ _ _ _ hne)).trans (Below.heap_setCell _ _ _ _ hne)
 refine ⟨fa2,nf2,fc2,ca2,nc2,cc2,sa2,sc2,rv,xv,by rw [d3,d4],?_,?_,?_⟩
 ·exact (hr.own.stay fun j hj _ => hot j hj).lower b0.size
 ·exact ownsRow_lower (ownsRow_block hr.sd fun g hgg => hot g (hr.sd.lt g hgg).1) b0.size
 ·have hbw : Below w.heap.size w wr:=b0.trans (hb.mono b0.size)
  exact ((((hbw.setCell (by show w.heap.size ≤ w.heap.size + 1; omega) _).setCell (by show w.heap.size ≤ w.heap.size + 1; omega) _).setCell (by show w.heap.size ≤ w.heap.size + 1; omega) _).setCell (by show w.heap.size ≤ w.heap.size + 1; omega) _).drew
end Go.Proofs.YtipnjoahobplhaaGreatDoor
