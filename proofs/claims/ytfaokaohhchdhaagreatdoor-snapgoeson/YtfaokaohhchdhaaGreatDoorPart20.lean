/- Run. -/
import Derived.Test.YtfaokaohhchdhaaGreatDoorPart19
namespace Go.Proofs.YtfaokaohhchdhaaGreatDoor
section
open Go.RowKit Go.Maps
def RunEnd (Y:Nat) (It:Nat→Nat→World→Prop) (Gb:Nat→Bool) (fuel:Nat) (e:Ending) (w':World):Prop :=
 ∃X k wr fa nf fc ca nc cc sa ns sc st wh,It X k wr∧k≤fuel∧(∀j,j<k→Gb j=true)∧(k=fuel∨Gb k=false) ∧
  wr.cell? ⟨X,1,none⟩=some (.slice fa nf fc)∧wr.cell? ⟨X,2,none⟩=some (.slice ca nc cc)∧wr.cell? ⟨X,3,none⟩=some (.int .i64 st)∧wr.cell? ⟨X,4,none⟩=some (.int .i64 wh)∧wr.cell? ⟨X,5,none⟩=some (.slice sa ns sc) ∧
  e=.returned (.tuple #[.agg #[.slice fa nf fc,.slice ca nc cc,.int .i64 st,.int .i64 wh],.slice sa ns sc,.int .i64 k,.int .i64 0]) ∧
  w'=((((wr.setCell ⟨Y,0,none⟩ (.slice fa nf fc)).setCell ⟨Y,1,none⟩ (.slice ca nc cc)).setCell ⟨Y,2,none⟩ (.int .i64 st)).setCell ⟨Y,3,none⟩ (.int .i64 wh)).drew
theorem set4_other {w:World} {Y:Nat} {a b c d:Value} {p:Addr} (h:¬p.block=Y):((((w.setCell ⟨Y,0,none⟩ a).setCell ⟨Y,1,none⟩ b).setCell ⟨Y,2,none⟩ c).setCell ⟨Y,3,none⟩ d).cell? p=w.cell? p :=
 World.cell?_of_block ((((Below.heap_setCell _ _ _ _ h).trans (Below.heap_setCell _ _ _ _ h)).trans (Below.heap_setCell _ _ _ _ h)).trans (Below.heap_setCell _ _ _ _ h))
set_option maxHeartbeats 4000000 in
theorem run_core (pa:Option Addr) (np pc:Nat) (fa ca:Option Addr) (nf nc fc cc:Nat) (st wh:Int) (fuel:Nat) (w W:World) (K0:Option Addr→Nat→Option Addr→Nat→World→Prop) (It:Nat→Nat→World→Prop) (Gb:Nat→Bool)
  (HW:Hid ((w.alloc (.cells #[.slice fa nf fc,.slice ca nc cc,.int .i64 st,.int .i64 wh] 26)).alloc (.cells #[.slice none 0 0,.slice none 0 0,.int .i64 0,.int .i64 0] 26)=W))
  (HX:Hid (∀wi,Below W.heap.size W wi→wi.cell? ⟨w.heap.size,0,none⟩=some (.slice fa nf fc)∧wi.cell? ⟨w.heap.size,1,none⟩=some (.slice ca nc cc)∧wi.cell? ⟨w.heap.size,2,none⟩=some (.int .i64 st)∧wi.cell? ⟨w.heap.size,3,none⟩=some (.int .i64 wh)))
  (HChk:Hid (Calls Tryz.prog 44 #[.slice pa np pc,.agg #[.slice fa nf fc,.slice ca nc cc,.int .i64 st,.int .i64 wh],.int .i64 fuel] W fun e w'=>e=.returned (.int .i64 0)∧Below W.heap.size W w'))
  (HCp:Hid (∀wi,Below W.heap.size W wi→Calls Tryz.prog 45 #[.agg #[.slice fa nf fc,.slice ca nc cc,.int .i64 st,.int .i64 wh]] wi fun e w'=>∃a c b d,e=.returned (.agg #[.slice a nf c,.slice b nc d,.int .i64 st,.int .i64 wh])∧Hid (K0 a c b d w')))
  (HI0:Hid (∀a c b d w2,K0 a c b d w2→It w2.heap.size 0 (w2.alloc (.cells #[.slice pa np pc,.slice a nf c,.slice b nc d,.int .i64 st,.int .i64 wh,.slice none 0 0,.bool false] 81))))
  (HGo:Hid (∀X k wr,It X k wr→Calls Tryz.prog 46 #[.pointer (some ⟨X,0,none⟩)] wr fun e w'=>e=.returned (.bool (Gb k))∧Hid (It X k w')))
  (HSt:Hid (∀X k wr,It X k wr→Gb k=true→k<fuel→Calls Tryz.prog 47 #[.pointer (some ⟨X,0,none⟩)] wr fun e w'=>(∃v,e=.returned v)∧Hid (It X (k+1) w')))
  (HEnd:Hid (∀X k wr,It X k wr→∃fa nf fc ca nc cc sa ns sc st wh,wr.cell? ⟨X,1,none⟩=some (.slice fa nf fc)∧wr.cell? ⟨X,2,none⟩=some (.slice ca nc cc)∧wr.cell? ⟨X,3,none⟩=some (.int .i64 st)∧wr.cell? ⟨X,4,none⟩=some (.int .i64 wh)∧wr.cell? ⟨X,5,none⟩=some (.slice sa ns sc)))
  (HY:Hid (∀X k wr,It X k wr→Box4 26 (w.heap.size+1) wr (.slice none 0 0) (.slice none 0 0) (.int .i64 0) (.int .i64 0)∧¬X=w.heap.size+1)) (hfu:fuel≤2000) :
  Calls Tryz.prog 13 #[.slice pa np pc,.agg #[.slice fa nf fc,.slice ca nc cc,.int .i64 st,.int .i64 wh],.int .i64 fuel] w (RunEnd (w.heap.size+1) It Gb fuel):=by
 obtain⟨s0,s1,s2,s3⟩:=HX.out W (Below.refl _ _)
 go_enter Tryz.func13,Tryz.ntmps13
 go_upto_region 1 with (fail)
 rw[HW.out]
 go_upto_region 6 with (first
  | (go_at_call 44;refine HChk.out.mono ?_;rintro e w1 ⟨rfl,hb1⟩;obtain⟨t0,t1,t2,t3⟩:=HX.out w1 hb1)
  | (go_at_call 45;refine (HCp.out _ hb1).mono ?_;rintro e w2 ⟨a,c,b,d,rfl,HK0⟩))
 have HI1:Hid (It w2.heap.size 0 (w2.alloc (.cells #[.slice pa np pc,.slice a nf c,.slice b nc d,.int .i64 st,.int .i64 wh,.slice none 0 0,.bool false] 81))):=HI0.out a c b d w2 HK0.out
 generalize w2.alloc (.cells #[.slice pa np pc,.slice a nf c,.slice b nc d,.int .i64 st,.int .i64 wh,.slice none 0 0,.bool false] 81)=w3 at *
 generalize w2.heap.size=X at *
 clear s0 s1 s2 s3 t0 t1 t2 t3 hb1 HK0 HCp HChk HX HI0
 go_loopw [12] (fun q wr=>∃k:Nat,k≤fuel∧q=.int .i64 k∧Hid (It X k wr)∧Hid (∀j,j<k→Gb j=true)) (fun q _=>fuel - (intOf q).toNat)
 case atStart=>exact⟨0,by omega,rfl,HI1,fun j hj=>absurd hj (Nat.not_lt_zero _)⟩
 case round =>
  clear HI1
  obtain⟨k,hk,rfl,HI,HA⟩:=hrel
  by_cases hlt:k<fuel
  ·cases hg:Gb k with
   | true =>
    have HG1:Hid (Calls Tryz.prog 46 #[.pointer (some ⟨X,0,none⟩)] wr fun e w'=>e=.returned (.bool true)∧Hid (It X k w')):=by
     have:=HGo.out X k wr HI.out
     rw[hg]at this;exact this
    have HS1:Hid (∀wi,It X k wi→Calls Tryz.prog 47 #[.pointer (some ⟨X,0,none⟩)] wi fun e w'=>(∃v,e=.returned v)∧Hid (It X (k+1) w')):=fun wi h=>HSt.out X k wi h hg hlt
    have HAg:Hid (∀j,j<k+1→Gb j=true):=fun j hj=>by
     by_cases e:j=k
     ·rw[e];exact hg
     ·exact HA.out j (by omega)
    clear hg
    go_wp2_with (first
     | (go_at_call 46;refine HG1.out.mono ?_;rintro e w5 ⟨rfl,HI5⟩)
     | (go_at_call 47;refine (HS1.out _ HI5.out).mono ?_;rintro e w6 ⟨⟨v6,rfl⟩,HI6⟩))
    go_roundw
    case rel=>exact⟨k+1,by omega,by go_num,HI6,HAg⟩
    case measure=>simp[intOf];omega
   | false =>
    have HG1:Hid (Calls Tryz.prog 46 #[.pointer (some ⟨X,0,none⟩)] wr fun e w'=>e=.returned (.bool false)∧Hid (It X k w')):=by
     have:=HGo.out X k wr HI.out
     rw[hg]at this;exact this
    have HE:Hid (k=fuel∨Gb k=false):=Or.inr hg
    have HL:Hid (k≤fuel):=hk
    clear hg
    go_upto_region 9 with (go_at_call 46;refine HG1.out.mono ?_;rintro e w5 ⟨rfl,HI5⟩)
    obtain⟨fa2,nf2,fc2,ca2,nc2,cc2,sa2,ns2,sc2,st2,wh2,x1,x2,x3,x4,x5⟩:=HEnd.out X k w5 HI5.out
    obtain⟨hy,hXY⟩:=HY.out X k w5 HI5.out
    obtain⟨y0,y1,y2,y3,y4⟩:=hy.at
    have z0:=y4 0
    have z1:=y4 1
    have z2:=y4 2
    have z3:=y4 3
    have HCe:Hid (w5.cell? ⟨X,1,none⟩=some (.slice fa2 nf2 fc2)∧w5.cell? ⟨X,2,none⟩=some (.slice ca2 nc2 cc2)∧w5.cell? ⟨X,3,none⟩=some (.int .i64 st2)∧w5.cell? ⟨X,4,none⟩=some (.int .i64 wh2)∧w5.cell? ⟨X,5,none⟩=some (.slice sa2 ns2 sc2)):=⟨x1,x2,x3,x4,x5⟩
    have HYh:Hid (((((w5.setCell ⟨w.heap.size+1,0,none⟩ (.slice fa2 nf2 fc2)).setCell ⟨w.heap.size+1,1,none⟩ (.slice ca2 nc2 cc2)).setCell ⟨w.heap.size+1,2,none⟩ (.int .i64 st2)).setCell ⟨w.heap.size+1,3,none⟩ (.int .i64 wh2)).drew.heap[w.heap.size+1]?=some (.cells #[.slice fa2 nf2 fc2,.slice ca2 nc2 cc2,.int .i64 st2,.int .i64 wh2] 26 (0,0))):=by
     have h0:=hy
     unfold Box4 at h0
     have h1:=heap_setCell_same w5 (w.heap.size+1) 0 _ _ (.slice fa2 nf2 fc2) h0
     have h2:=heap_setCell_same _ (w.heap.size+1) 1 _ _ (.slice ca2 nc2 cc2) h1
     have h3:=heap_setCell_same _ (w.heap.size+1) 2 _ _ (.int .i64 st2) h2
     exact heap_setCell_same _ (w.heap.size+1) 3 _ _ (.int .i64 wh2) h3
    have HCk:Hid (((((w5.setCell ⟨w.heap.size+1,0,none⟩ (.slice fa2 nf2 fc2)).setCell ⟨w.heap.size+1,1,none⟩ (.slice ca2 nc2 cc2)).setCell ⟨w.heap.size+1,2,none⟩ (.int .i64 st2)).setCell ⟨w.heap.size+1,3,none⟩ (.int .i64 wh2)).drew.cell? ⟨X,1,none⟩=some (.slice fa2 nf2 fc2)∧((((w5.setCell ⟨w.heap.size+1,0,none⟩ (.slice fa2 nf2 fc2)).setCell ⟨w.heap.size+1,1,none⟩ (.slice ca2 nc2 cc2)).setCell ⟨w.heap.size+1,2,none⟩ (.int .i64 st2)).setCell ⟨w.heap.size+1,3,none⟩ (.int .i64 wh2)).drew.cell? ⟨X,2,none⟩=some (.slice ca2 nc2 cc2)∧((((w5.setCell ⟨w.heap.size+1,0,none⟩ (.slice fa2 nf2 fc2)).setCell ⟨w.heap.size+1,1,none⟩ (.slice ca2 nc2 cc2)).setCell ⟨w.heap.size+1,2,none⟩ (.int .i64 st2)).setCell ⟨w.heap.size+1,3,none⟩ (.int .i64 wh2)).drew.cell? ⟨X,3,none⟩=some (.int .i64 st2)∧((((w5.setCell ⟨w.heap.size+1,0,none⟩ (.slice fa2 nf2 fc2)).setCell ⟨w.heap.size+1,1,none⟩ (.slice ca2 nc2 cc2)).setCell ⟨w.heap.size+1,2,none⟩ (.int .i64 st2)).setCell ⟨w.heap.size+1,3,none⟩ (.int .i64 wh2)).drew.cell? ⟨X,4,none⟩=some (.int .i64 wh2)∧((((w5.setCell ⟨w.heap.size+1,0,none⟩ (.slice fa2 nf2 fc2)).setCell ⟨w.heap.size+1,1,none⟩ (.slice ca2 nc2 cc2)).setCell ⟨w.heap.size+1,2,none⟩ (.int .i64 st2)).setCell ⟨w.heap.size+1,3,none⟩ (.int .i64 wh2)).drew.cell? ⟨X,5,none⟩=some (.slice sa2 ns2 sc2)):=by
     have kk:∀i,((((w5.setCell ⟨w.heap.size+1,0,none⟩ (.slice fa2 nf2 fc2)).setCell ⟨w.heap.size+1,1,none⟩ (.slice ca2 nc2 cc2)).setCell ⟨w.heap.size+1,2,none⟩ (.int .i64 st2)).setCell ⟨w.heap.size+1,3,none⟩ (.int .i64 wh2)).drew.cell? ⟨X,i,none⟩=w5.cell? ⟨X,i,none⟩:=fun i=>set4_other (by show ¬X=w.heap.size+1;exact hXY)
     exact⟨(kk 1).trans x1,(kk 2).trans x2,(kk 3).trans x3,(kk 4).trans x4,(kk 5).trans x5⟩
    clear y4 hy HSt HGo HEnd HY
    go_region_held3 (fun w'=>w'.cell? ⟨X,1,none⟩=some (.slice fa2 nf2 fc2)∧w'.cell? ⟨X,2,none⟩=some (.slice ca2 nc2 cc2)∧w'.cell? ⟨X,3,none⟩=some (.int .i64 st2)∧w'.cell? ⟨X,4,none⟩=some (.int .i64 wh2)∧w'.cell? ⟨X,5,none⟩=some (.slice sa2 ns2 sc2))
     (first|exact HCe.out|exact HCk.out) (fail)
    all_goals
     go_wp2
     refine bodyPost_ret (results_row_tmp3 rfl _ _ (w.heap.size+1) 26 _ (0,0) _ rfl HYh.out Tryz.underlying26 rfl (by kernel_rfl)) rfl ?_
     exact⟨X,k,w5,fa2,nf2,fc2,ca2,nc2,cc2,sa2,ns2,sc2,st2,wh2,HI5.out,HL.out,HA.out,HE.out,HCe.out.1,HCe.out.2.1,HCe.out.2.2.1,HCe.out.2.2.2.1,HCe.out.2.2.2.2,rfl,rfl⟩
  ·obtain rfl:k=fuel:=by omega
   have HL:Hid (k≤k):=Nat.le_refl _
   have HI5:=HI
   go_upto_region 9 with (fail)
   obtain⟨fa2,nf2,fc2,ca2,nc2,cc2,sa2,ns2,sc2,st2,wh2,x1,x2,x3,x4,x5⟩:=HEnd.out X k wr HI5.out
   obtain⟨hy,hXY⟩:=HY.out X k wr HI5.out
   obtain⟨y0,y1,y2,y3,y4⟩:=hy.at
   have z0:=y4 0
   have z1:=y4 1
   have z2:=y4 2
   have z3:=y4 3
   have HCe:Hid (wr.cell? ⟨X,1,none⟩=some (.slice fa2 nf2 fc2)∧wr.cell? ⟨X,2,none⟩=some (.slice ca2 nc2 cc2)∧wr.cell? ⟨X,3,none⟩=some (.int .i64 st2)∧wr.cell? ⟨X,4,none⟩=some (.int .i64 wh2)∧wr.cell? ⟨X,5,none⟩=some (.slice sa2 ns2 sc2)):=⟨x1,x2,x3,x4,x5⟩
   have HYh:Hid (((((wr.setCell ⟨w.heap.size+1,0,none⟩ (.slice fa2 nf2 fc2)).setCell ⟨w.heap.size+1,1,none⟩ (.slice ca2 nc2 cc2)).setCell ⟨w.heap.size+1,2,none⟩ (.int .i64 st2)).setCell ⟨w.heap.size+1,3,none⟩ (.int .i64 wh2)).drew.heap[w.heap.size+1]?=some (.cells #[.slice fa2 nf2 fc2,.slice ca2 nc2 cc2,.int .i64 st2,.int .i64 wh2] 26 (0,0))):=by
    have h0:=hy
    unfold Box4 at h0
    have h1:=heap_setCell_same wr (w.heap.size+1) 0 _ _ (.slice fa2 nf2 fc2) h0
    have h2:=heap_setCell_same _ (w.heap.size+1) 1 _ _ (.slice ca2 nc2 cc2) h1
    have h3:=heap_setCell_same _ (w.heap.size+1) 2 _ _ (.int .i64 st2) h2
    exact heap_setCell_same _ (w.heap.size+1) 3 _ _ (.int .i64 wh2) h3
   have HCk:Hid (((((wr.setCell ⟨w.heap.size+1,0,none⟩ (.slice fa2 nf2 fc2)).setCell ⟨w.heap.size+1,1,none⟩ (.slice ca2 nc2 cc2)).setCell ⟨w.heap.size+1,2,none⟩ (.int .i64 st2)).setCell ⟨w.heap.size+1,3,none⟩ (.int .i64 wh2)).drew.cell? ⟨X,1,none⟩=some (.slice fa2 nf2 fc2)∧((((wr.setCell ⟨w.heap.size+1,0,none⟩ (.slice fa2 nf2 fc2)).setCell ⟨w.heap.size+1,1,none⟩ (.slice ca2 nc2 cc2)).setCell ⟨w.heap.size+1,2,none⟩ (.int .i64 st2)).setCell ⟨w.heap.size+1,3,none⟩ (.int .i64 wh2)).drew.cell? ⟨X,2,none⟩=some (.slice ca2 nc2 cc2)∧((((wr.setCell ⟨w.heap.size+1,0,none⟩ (.slice fa2 nf2 fc2)).setCell ⟨w.heap.size+1,1,none⟩ (.slice ca2 nc2 cc2)).setCell ⟨w.heap.size+1,2,none⟩ (.int .i64 st2)).setCell ⟨w.heap.size+1,3,none⟩ (.int .i64 wh2)).drew.cell? ⟨X,3,none⟩=some (.int .i64 st2)∧((((wr.setCell ⟨w.heap.size+1,0,none⟩ (.slice fa2 nf2 fc2)).setCell ⟨w.heap.size+1,1,none⟩ (.slice ca2 nc2 cc2)).setCell ⟨w.heap.size+1,2,none⟩ (.int .i64 st2)).setCell ⟨w.heap.size+1,3,none⟩ (.int .i64 wh2)).drew.cell? ⟨X,4,none⟩=some (.int .i64 wh2)∧((((wr.setCell ⟨w.heap.size+1,0,none⟩ (.slice fa2 nf2 fc2)).setCell ⟨w.heap.size+1,1,none⟩ (.slice ca2 nc2 cc2)).setCell ⟨w.heap.size+1,2,none⟩ (.int .i64 st2)).setCell ⟨w.heap.size+1,3,none⟩ (.int .i64 wh2)).drew.cell? ⟨X,5,none⟩=some (.slice sa2 ns2 sc2)):=by
    have kk:∀i,((((wr.setCell ⟨w.heap.size+1,0,none⟩ (.slice fa2 nf2 fc2)).setCell ⟨w.heap.size+1,1,none⟩ (.slice ca2 nc2 cc2)).setCell ⟨w.heap.size+1,2,none⟩ (.int .i64 st2)).setCell ⟨w.heap.size+1,3,none⟩ (.int .i64 wh2)).drew.cell? ⟨X,i,none⟩=wr.cell? ⟨X,i,none⟩:=fun i=>set4_other (by show ¬X=w.heap.size+1;exact hXY)
    exact⟨(kk 1).trans x1,(kk 2).trans x2,(kk 3).trans x3,(kk 4).trans x4,(kk 5).trans x5⟩
   clear y4 hy HSt HGo HEnd HY
   go_region_held3 (fun w'=>w'.cell? ⟨X,1,none⟩=some (.slice fa2 nf2 fc2)∧w'.cell? ⟨X,2,none⟩=some (.slice ca2 nc2 cc2)∧w'.cell? ⟨X,3,none⟩=some (.int .i64 st2)∧w'.cell? ⟨X,4,none⟩=some (.int .i64 wh2)∧w'.cell? ⟨X,5,none⟩=some (.slice sa2 ns2 sc2))
    (first|exact HCe.out|exact HCk.out) (fail)
   all_goals
    go_wp2
    refine bodyPost_ret (results_row_tmp3 rfl _ _ (w.heap.size+1) 26 _ (0,0) _ rfl HYh.out Tryz.underlying26 rfl (by kernel_rfl)) rfl ?_
    exact⟨X,k,wr,fa2,nf2,fc2,ca2,nc2,cc2,sa2,ns2,sc2,st2,wh2,HI5.out,HL.out,HA.out,Or.inl rfl,HCe.out.1,HCe.out.2.1,HCe.out.2.2.1,HCe.out.2.2.2.1,HCe.out.2.2.2.2,rfl,rfl⟩
end
section
def idx (R:List Int) (x:Int):Int:=(R.idxOf x:Int)
theorem idx_inj {R:List Int} {x y:Int} (hx:x ∈ R) (hy:y ∈ R) (h:idx R x=idx R y):x=y:=by
 unfold idx at h
 have h1:=List.idxOf_lt_length_of_mem hx
 have h2:=List.idxOf_lt_length_of_mem hy
 have e1:=List.getElem_idxOf h1
 have e2:=List.getElem_idxOf h2
 have e:R.idxOf x=R.idxOf y:=by omega
 rw[←e1,←e2]
 simp only[e]
theorem idx_at {R:List Int} (hn:R.Nodup) {i:Nat} (hi:i<R.length):idx R (R.getD i 0)=i:=by
 unfold idx
 rw[List.getD_eq_getElem?_getD,List.getElem?_eq_getElem hi,Option.getD_some,hn.idxOf_getElem i hi]
theorem meet1_map {R A:List Int} (hA:∀x,x ∈ A→x ∈ R) {k z z':Int} (hz:k=2→z ∈ R∧z'=idx R z):meet1 (A.map (idx R)) k z'=(meet1 A k z).map (idx R):=by
 by_cases hk:k=2
 ·obtain⟨h1,rfl⟩:=hz hk
  by_cases hm:z ∈ A
  ·rw[meet1_old hm,meet1_old (List.mem_map.2 ⟨z,hm,rfl⟩)]
  ·rw[meet1_new hk hm,meet1_new hk,List.map_append];· rfl
   intro h
   obtain⟨y,hy,e⟩:=List.mem_map.1 h
   exact hm (idx_inj (hA y hy) h1 e ▸ hy)
 ·rw[meet1_no hk,meet1_no hk]
theorem meet1_in {R A:List Int} (hA:∀x,x ∈ A→x ∈ R) {k z:Int} (hz:k=2→z ∈ R):∀x,x ∈ meet1 A k z→x ∈ R:=fun x hx=>by
 rcases mem_meet1.1 hx with h|⟨h1,rfl⟩
 ·exact hA x h
 ·exact hz h1
theorem meetTo_in {R A:List Int} (hA:∀x,x ∈ A→x ∈ R) {k z:Nat→Int}:∀ {i:Nat},(∀j,j<i→k j=2→z j ∈ R)→∀x,x ∈ meetTo i k z A→x ∈ R
 | 0,_=>hA
 | i+1,h=>meet1_in (meetTo_in hA fun j hj=>h j (by omega)) (h i (by omega))
theorem meetTo_map {R A:List Int} (hA:∀x,x ∈ A→x ∈ R) {k z k' z':Nat→Int}:∀ {i:Nat},(∀j,j<i→k' j=k j)→(∀j,j<i→k j=2→z j ∈ R∧z' j=idx R (z j))→meetTo i k' z' (A.map (idx R))=(meetTo i k z A).map (idx R)
 | 0,_,_=>rfl
 | i+1,hk,h=>by
  show meet1 (meetTo i k' z' (A.map (idx R))) (k' i) (z' i)=(meet1 (meetTo i k z A) (k i) (z i)).map (idx R)
  rw[meetTo_map hA (fun j hj=>hk j (by omega)) (fun j hj=>h j (by omega)),hk i (by omega)]
  exact meet1_map (meetTo_in hA fun j hj e=>(h j (by omega) e).1) (h i (by omega))
section
variable {n:Nat} {m:Nat→Nat} {K Z:Nat→Nat→Int} {f:Nat} {kf zf:Nat→Int}
theorem rt_more (t:Nat):∀d,∃S,rt m K Z f kf zf (t+d)=rt m K Z f kf zf t++S
 | 0=>⟨[],by simp⟩
 | d+1=>by
  obtain⟨S,h⟩:=rt_more t d
  obtain⟨S',h'⟩:=rt_prefix (m:=m) (K:=K) (Z:=Z) (f:=f) (kf:=kf) (zf:=zf) (t+d)
  exact⟨S++S',by rw[show t+(d+1)=t+d+1 by omega,h',h,List.append_assoc]⟩
theorem rt_of_reached (hv:Valid n m K Z f kf zf) (t:Nat):∃S,reached n m K Z f kf zf=rt m K Z f kf zf t++S:=by
 by_cases h:t≤n
 ·obtain⟨S,e⟩:=rt_more (m:=m) (K:=K) (Z:=Z) (f:=f) (kf:=kf) (zf:=zf) t (n - t)
  rw[show t+(n - t)=n by omega]at e
  exact⟨S,e⟩
 ·have hl:=(rt_good hv n).len
  have:=rt_stays (m:=m) (K:=K) (Z:=Z) (f:=f) (kf:=kf) (zf:=zf) (t:=n) (by omega) (t - n)
  rw[show n+(t - n)=t by omega]at this
  exact⟨[],by rw[this,List.append_nil];rfl⟩
theorem rt_all (hv:Valid n m K Z f kf zf) {t:Nat} (ht:(reached n m K Z f kf zf).length≤t):rt m K Z f kf zf t=reached n m K Z f kf zf:=by
 obtain⟨S,e⟩:=rt_of_reached hv t
 by_cases h:t≤n
 ·refine (rt_done h ?_).symm
  have:(reached n m K Z f kf zf).length=(rt m K Z f kf zf t).length+S.length:=by rw[e,List.length_append]
  omega
 ·have hl:=(rt_good hv n).len
  have:=rt_stays (m:=m) (K:=K) (Z:=Z) (f:=f) (kf:=kf) (zf:=zf) (t:=n) (by omega) (t - n)
  rw[show n+(t - n)=t by omega]at this
  exact this
theorem rt_map (hv:Valid n m K Z f kf zf) {m':Nat→Nat} {K' Z':Nat→Nat→Int} {kf' zf':Nat→Int} {R:List Int} (hR:R=reached n m K Z f kf zf)
  (hf:∀j,j<f→kf' j=kf j) (hz:∀j,j<f→kf j=2→zf' j=idx R (zf j))
  (hm:∀i,i<R.length→m' i=m (R.getD i 0).toNat) (hK:∀i,i<R.length→∀j,K' i j=K (R.getD i 0).toNat j) (hZ:∀i,i<R.length→∀j,j<m' i→K' i j=2→Z' i j=idx R (Z (R.getD i 0).toNat j)) :
  ∀t,rt m' K' Z' f kf' zf' t=(rt m K Z f kf zf t).map (idx R)
 | 0=>by
  have:=meetTo_map (R:=R) (A:=[]) (fun x h=>absurd h List.not_mem_nil) (k:=kf) (z:=zf) (k':=kf') (z':=zf') (i:=f) hf (fun j hj e=>⟨by rw[hR];exact reached_from hj e,hz j hj e⟩)
  exact this
 | t+1=>by
  have ih:=rt_map hv hR hf hz hm hK hZ t
  obtain⟨S,e⟩:=rt_of_reached hv t
  rw[←hR]at e
  have hg:Good n R:=by rw[hR];exact rt_good hv n
  have hA:∀x,x ∈ rt m K Z f kf zf t→x ∈ R:=fun x hx=>by rw[e];exact List.mem_append_left _ hx
  show (if t<(rt m' K' Z' f kf' zf' t).length then stepR m' K' Z' t (rt m' K' Z' f kf' zf' t) else rt m' K' Z' f kf' zf' t)=(if t<(rt m K Z f kf zf t).length then stepR m K Z t (rt m K Z f kf zf t) else rt m K Z f kf zf t).map (idx R)
  rw[ih,List.length_map]
  by_cases h:t<(rt m K Z f kf zf t).length
  ·rw[if_pos h,if_pos h]
   have hl:t<R.length:=by rw[e,List.length_append];omega
   have e0:(rt m K Z f kf zf t).getD t 0=R.getD t 0:=by rw[e,getD_prefix h]
   have e1:((rt m K Z f kf zf t).map (idx R)).getD t 0=(t:Int):=by
    rw[List.getD_eq_getElem?_getD,List.getElem?_map]
    have:(rt m K Z f kf zf t)[t]?=some (R.getD t 0):=by
     rw[←e0,List.getD_eq_getElem?_getD,List.getElem?_eq_getElem h];rfl
    rw[this]
    exact idx_at hg.1 hl
   unfold stepR
   rw[e0,e1,Int.toNat_natCast,hm t hl]
   have hmem:(((R.getD t 0).toNat:Nat):Int) ∈ reached n m K Z f kf zf:=by
    obtain⟨c,_,hc⟩:=hg.at hl
    have hx:R.getD t 0 ∈ R:=getD_mem hl
    rw[hc]at hx ⊢
    rw[Int.toNat_natCast,←hR];exact hx
   refine meetTo_map hA (fun j _=>hK t hl j) fun j hj e2=>⟨?_,hZ t hl j (by rw[hm t hl];exact hj) (by rw[hK t hl];exact e2)⟩
   rw[hR]
   rw[hR]at hj e2
   rw[hR]at hmem
   exact reached_closed hv hmem hj e2
  ·rw[if_neg h,if_neg h]
end
theorem renum_kind (R:List Int) (v:Int×Int):(renum R v).1=v.1:=by
 unfold renum;split
 ·rename_i h;exact h.symm
 ·rfl
theorem renum_num (R:List Int) {v:Int×Int} (h:v.1=2):(renum R v).2=idx R v.2:=by unfold renum;rw[if_pos h];rfl
theorem getD_map {α β:Type} (g:α→β) (L:List α) (i:Nat) (d:α) (e:β) (h:i<L.length):(L.map g).getD i e=g (L.getD i d):=by
 rw[List.getD_eq_getElem?_getD,List.getElem?_map,List.getElem?_eq_getElem h,List.getD_eq_getElem?_getD,List.getElem?_eq_getElem h];rfl
theorem fstAt_renum (R:List Int) (L:List (Int×Int)) (i:Nat):fstAt (L.map (renum R)) i=fstAt L i:=by
 unfold fstAt
 by_cases h:i<L.length
 ·rw[getD_map (renum R) L i (0,0) (0,0) h,renum_kind]
 ·rw[getD_none (by simp;omega),getD_none (by omega)]
theorem sndAt_renum (R:List Int) {L:List (Int×Int)} {i:Nat} (h:i<L.length) (hk:fstAt L i=2):sndAt (L.map (renum R)) i=idx R (sndAt L i):=by
 unfold sndAt
 rw[getD_map (renum R) L i (0,0) (0,0) h,renum_num R hk]
theorem regsOf_renum (R:List Int):∀fs:List Fm,regsOf (fs.map (renumF R))=(regsOf fs).map (renum R)
 | []=>rfl
 | f::r=>by
  have:=regsOf_renum R r
  unfold regsOf at this ⊢
  simp only[List.map_cons,List.flatten_cons,List.map_append,this]
  rfl
section
variable {np:Nat} {P:Nat→Pc} {S:Sta}
theorem reached_swept (hc:CodeOK np P) (h:StaOK np P S):reachedS (sweptS S)=(reachedS S).map (idx (reachedS S)):=by
 have hv:=h.valid hc
 have hg:=h.reached hc
 have hcl:=sweptS_cells S
 have hrow:∀i,i<(reachedS S).length→(sweptS S).cs.getD i []=(S.cs.getD ((reachedS S).getD i 0).toNat []).map (renum (reachedS S)):=fun i hi=>getD_map _ _ i 0 [] hi
 have hT:=rt_map hv (m':=cLen (sweptS S).cs) (K':=cK (sweptS S).cs) (Z':=cZ (sweptS S).cs) (kf':=fstAt (regsOf (sweptS S).fs)) (zf':=sndAt (regsOf (sweptS S).fs)) (R:=reachedS S) rfl
  (fun j _=>by show fstAt (regsOf (S.fs.map _)) j=_;rw[regsOf_renum,fstAt_renum])
  (fun j hj e=>by show sndAt (regsOf (S.fs.map _)) j=_;rw[regsOf_renum,sndAt_renum _ hj e])
  (fun i hi=>by unfold cLen;rw[hrow i hi,List.length_map])
  (fun i hi j=>by unfold cK;rw[hrow i hi,fstAt_renum])
  (fun i hi j hj e=>by
   unfold cZ
   unfold cK at e
   unfold cLen at hj
   rw[hrow i hi,List.length_map]at hj
   rw[hrow i hi,fstAt_renum]at e
   rw[hrow i hi,sndAt_renum _ hj e])
  (reachedS S).length
 have hl:(regsOf (sweptS S).fs).length=(regsOf S.fs).length:=by
  show (regsOf (S.fs.map _)).length=_
  rw[regsOf_renum,List.length_map]
 show reached (sweptS S).cs.length (cLen (sweptS S).cs) (cK (sweptS S).cs) (cZ (sweptS S).cs) (regsOf (sweptS S).fs).length (fstAt (regsOf (sweptS S).fs)) (sndAt (regsOf (sweptS S).fs))=_
 rw[hcl,hl]
 show rt (cLen (sweptS S).cs) (cK (sweptS S).cs) (cZ (sweptS S).cs) (regsOf S.fs).length (fstAt (regsOf (sweptS S).fs)) (sndAt (regsOf (sweptS S).fs)) (reachedS S).length=_
 have hall:rt (cLen S.cs) (cK S.cs) (cZ S.cs) (regsOf S.fs).length (fstAt (regsOf S.fs)) (sndAt (regsOf S.fs)) (reachedS S).length=reachedS S:=rt_all hv (Nat.le_refl _)
 rw[hT,hall]
theorem idx_list {R:List Int} (hn:R.Nodup) {i:Nat} (hi:i<R.length):(R.map (idx R)).getD i 0=i:=by
 rw[getD_map (idx R) R i 0 0 hi,idx_at hn hi]
theorem idx_nodup {R:List Int} (hn:R.Nodup):(R.map (idx R)).Nodup:=by
 exact List.pairwise_map.2 (hn.imp_of_mem fun ha hb hne e=>hne (idx_inj ha hb e))
theorem idx_idx {R:List Int} (hn:R.Nodup) {x:Int} (hx:x ∈ R):idx (R.map (idx R)) (idx R x)=idx R x:=by
 have h1:=List.idxOf_lt_length_of_mem hx
 have e:(R.map (idx R)).getD (R.idxOf x) 0=idx R x:=idx_list hn h1
 have:=idx_at (idx_nodup hn) (i:=R.idxOf x) (by simpa using h1)
 rw[e]at this
 exact this
theorem renum_twice {R:List Int} (hn:R.Nodup) {v:Int×Int} (hv:v.1=2→v.2 ∈ R):renum (R.map (idx R)) (renum R v)=renum R v:=by
 by_cases e:v.1=2
 ·have e1:renum R v=(2,idx R v.2):=by unfold renum;rw[if_pos e];rfl
  rw[e1]
  unfold renum
  rw[if_pos rfl]
  have:=idx_idx hn (hv e)
  show ((2:Int),idx (R.map (idx R)) (idx R v.2))=_
  rw[this]
 ·have e1:renum R v=v:=by unfold renum;rw[if_neg e]
  rw[e1];unfold renum;rw[if_neg e]
theorem sweptS_twice (hc:CodeOK np P) (h:StaOK np P S):sweptS (sweptS S)=sweptS S:=by
 have hg:=h.reached hc
 have hR:=reached_swept hc h
 have hfs:∀f,f ∈ S.fs→renumF ((reachedS S).map (idx (reachedS S))) (renumF (reachedS S) f)=renumF (reachedS S) f:=fun f hf=>by
  unfold renumF
  congr 1
  rw[List.map_map]
  exact List.map_congr_left fun v hv=>renum_twice hg.1 fun e=>reg_reached hf hv e
 have e1:(sweptS (sweptS S)).fs=(sweptS S).fs:=by
  show (S.fs.map _).map (renumF (reachedS (sweptS S)))=S.fs.map _
  rw[hR,List.map_map]
  exact List.map_congr_left hfs
 have e2:(sweptS (sweptS S)).cs=(sweptS S).cs:=by
  show (reachedS (sweptS S)).map (fun n=>((sweptS S).cs.getD n.toNat []).map (renum (reachedS (sweptS S))))=(reachedS S).map _
  rw[hR,List.map_map]
  refine List.map_congr_left fun x hx=>?_
  have h1:=List.idxOf_lt_length_of_mem hx
  have hrow:(sweptS S).cs.getD (idx (reachedS S) x).toNat []=(S.cs.getD x.toNat []).map (renum (reachedS S)):=by
   have:=getD_map (fun n:Int=>(S.cs.getD n.toNat []).map (renum (reachedS S))) (reachedS S) ((reachedS S).idxOf x) 0 [] h1
   have e0:(reachedS S).getD ((reachedS S).idxOf x) 0=x:=by
    rw[List.getD_eq_getElem?_getD,List.getElem?_eq_getElem h1];exact List.getElem_idxOf h1
   rw[e0]at this
   exact this
  show ((sweptS S).cs.getD (idx (reachedS S) x).toNat []).map (renum _)=_
  rw[hrow,List.map_map]
  exact List.map_congr_left fun v hv=>renum_twice hg.1 fun e=>field_reached hc h hx hv e
 show Sta.mk _ _ _ _=Sta.mk _ _ _ _
 exact congr (congr (congr (congrArg Sta.mk e1) e2) rfl) rfl
end
end
end Go.Proofs.YtfaokaohhchdhaaGreatDoor
