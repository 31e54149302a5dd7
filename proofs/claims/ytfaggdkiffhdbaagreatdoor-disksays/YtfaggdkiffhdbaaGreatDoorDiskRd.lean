/- disk.read, by the program. -/
import Derived.Test.YtfaggdkiffhdbaaGreatDoorDiskMem
import Derived.Test.YtfaggdkiffhdbaaGreatDoorShelfB
namespace Go.Proofs.YtfaggdkiffhdbaaGreatDoor
open Go.RowKit Go.Maps

theorem max_cell {N : Nat} {w : World} (h : NEnv N w) : ∃ m,w.cell? ⟨0,0,none⟩=some (.int .i64 m):=h.max

/-- bytes.Cut at a line feed. -/
theorem cutB (N : Nat) (w : World) (he : NEnv N w) (hN : N≤w.heap.size) (M : Nat) (hM : M≤w.heap.size) (a : Option Addr) (c : Nat) (l : List UInt8) (h : BytesL M w a c l) (hl : l.length≤1000000) :
  Calls Tryz.prog 32 #[.slice a l.length c,.slice (some ⟨w.heap.size,0,none⟩) 1 1] (w.alloc (.cells #[.int .u8 10] 5 (1,2))) fun e w' => e=.returned (Lib.cutV a l.length c 1 (Lib.index l [10]))∧Hid (Below w.heap.size w w'):=by
 have hb : Below w.heap.size w (w.alloc (.cells #[.int .u8 10] 5 (1,2))):=below_alloc w _
 obtain ⟨m,hm⟩:=(he.below (hb.mono hN)).max
 have hB2 : Lib.BytesIn (w.alloc (.cells #[.int .u8 10] 5 (1,2))) (some ⟨w.heap.size,0,none⟩) 1 [10]:=fun _ => ⟨w.heap.size,0,rfl,fun i hi => by
  obtain rfl : i=0:=by omega
  rw [World.cell?_alloc_mark]
  rfl⟩
 have:=Tryz.bytes_Cut_all a (some ⟨w.heap.size,0,none⟩) l.length c 1 1 (numsB l) [10] m (w.alloc (.cells #[.int .u8 10] 5 (1,2))) (numsB_len l) rfl (numsB_byte l) (by intro y hy; simp at hy; subst hy; decide) (h.below (hb.mono hM)).in hB2 (fun e => (h.nil e).2) h.le (by omega) (by decide) hm
 rw [numsB_of,show Lib.bytesOf [10]=[10] by decide] at this
 refine this.mono ?_
 rintro e w' ⟨rfl,q,hq⟩
 exact ⟨rfl,hq ▸ (below_drewN' _ q |> fun h => below_step hb h)⟩

set_option maxRecDepth 20000 in
set_option maxHeartbeats 8000000 in
/-- disk.read: the records at the begin of a text,how many bytes they have,what is wrong behind them. -/
theorem dreadC (N : Nat) (w : World) (he : NEnv N w) (hN : N≤w.heap.size) (M : Nat) (hM : M≤w.heap.size) (ta : Option Addr) (tc : Nat) (t : List UInt8) (h : BytesL M w ta tc t) (hl : t.length≤60000) :
  Calls Tryz.prog 21 #[.slice ta t.length tc] w fun e w' => ∃ la lc L,e=.returned (.tuple #[.slice la (dRead 120 t).1.length lc,.int .i64 ((dRead 120 t).2.1 : Nat),.int .i64 (dRead 120 t).2.2]) ∧
   Hid (RecRow w.heap.size w' (.slice la (dRead 120 t).1.length lc) L)∧Hid (L.map (·.1)=(dRead 120 t).1)∧Hid (Below w.heap.size w w'):=by
 have HT : Hid (∀ wk,Below w.heap.size w wk→BytesL M wk ta tc t):=fun wk hk => h.below (hk.mono hM)
 have HE : Hid (∀ wk,Below w.heap.size w wk→NEnv N wk∧N≤wk.heap.size∧M≤wk.heap.size):=fun wk hk => ⟨he.below (hk.mono hN),Nat.le_trans hN hk.size,Nat.le_trans hM hk.size⟩
 have HTl : Hid (t.length≤60000):=hl
 have HTc : Hid (t.length≤tc):=h.le
 have HPost : Hid (∀ (wk : World) la lc (L : List (Rc×RAd)) (sz : Nat) (er : Int),dRead 120 t=(L.map (·.1),sz,er)→RecRow w.heap.size wk (.slice la L.length lc) L→Below w.heap.size w wk →
   ∃ la' lc' L',Ending.returned (.tuple #[.slice la L.length lc,.int .i64 (sz : Nat),.int .i64 er])=Ending.returned (.tuple #[.slice la' (dRead 120 t).1.length lc',.int .i64 ((dRead 120 t).2.1 : Nat),.int .i64 (dRead 120 t).2.2]) ∧
    Hid (RecRow w.heap.size wk (.slice la' (dRead 120 t).1.length lc') L')∧Hid (L'.map (·.1)=(dRead 120 t).1)∧Hid (Below w.heap.size w wk)):=fun wk la lc L sz er hd hr hb => by
  rw [hd]
  refine ⟨la,lc,L,?_,?_,rfl,hb⟩
  ·simp only [List.length_map]
  ·simp only [List.length_map]; exact hr
 obtain ⟨n,hn⟩ : ∃ n,t.length=n:=⟨_,rfl⟩
 have HN : Hid (t.length=n):=hn
 have hn6 : n≤60000:=by omega
 rw [hn]
 clear h he hN hM hl hn
 go_enter Tryz.func21,Tryz.ntmps21
 go_upto_region 1 with (fail)
 go_loopw [2,3] (fun u i wr => ∃ (sz : Nat) (L : List (Rc×RAd)),sz≤n∧i=.int .i64 sz∧Hid (DIn 120 t (L.map (·.1)) sz)∧Hid (RecRow w.heap.size wr u L)∧Hid (Below w.heap.size w wr)) (fun _ i _ => n - (intOf i).toNat)
 case atStart => exact ⟨0,[],Nat.zero_le _,rfl,DIn.start 120 t,RecRow.nil _ _,Below.refl _ _⟩
 case round =>
  obtain ⟨sz,L,hsz,rfl,HD,HR,HB⟩:=hrel
  obtain ⟨la,lc,rfl⟩:=own_shape HR.out.1
  have HLm : Hid (L.length≤120):=by have:=HD.out.1; rw [List.length_map] at this; exact this
  by_cases hs : sz < n
  ·have hsi : (sz : Int) < (n : Int):=by omega
   obtain ⟨b,o,rfl,hbM,_⟩:=(HT.out w (Below.refl _ _)).place (by have:=HN.out; omega)
   obtain ⟨o2,ho2⟩ : ∃ o2,(if tc=sz then o else o + sz)=o2:=⟨_,rfl⟩
   have HO2 : Hid (o + sz=o2):=by
    show _=_
    have:=HTc.out; have:=HN.out
    rw [if_neg (by omega)] at ho2
    exact ho2
   obtain ⟨m2,hm2⟩ : ∃ m2,n - sz=m2:=⟨_,rfl⟩
   obtain ⟨c2,hc2⟩ : ∃ c2,tc - sz=c2:=⟨_,rfl⟩
   have hsl : ∀ wk,(Instr.slice 22 (.slice (some ⟨b,o,none⟩) n tc) (some (.int .i64 (sz : Nat))) none none).run Tryz.prog wk=.ok (.slice (some ⟨b,o2,none⟩) m2 c2) wk:=fun wk => by
    have:=bl_from b o n tc sz (by omega) wk
    rw [ho2,hm2,hc2] at this
    exact this
   have HRest : Hid (∀ wk,Below w.heap.size w wk→BytesL M wk (some ⟨b,o2,none⟩) c2 (t.drop sz)):=fun wk hk => by
    have hb:=HT.out wk hk
    refine ⟨by rw [List.length_drop]; have:=hb.le; omega,by have:=hb.big; omega,(fun e => by cases e),fun p hp => ?_⟩
    cases hp
    rcases hb.one _ rfl with h1 | ⟨b',o',e,hlt,hc⟩
    ·exact Or.inl (by rw [h1]; simp)
    ·cases e
     refine Or.inr ⟨b,o2,rfl,hbM,fun i z hi => ?_⟩
     rw [List.getElem?_drop] at hi
     rw [← HO2.out,Nat.add_assoc]
     exact hc _ z hi
   have hdl : (t.drop sz).length=m2:=by rw [List.length_drop,HN.out]; exact hm2
   have HCut : Hid (∀ wk,Below w.heap.size w wk→Calls Tryz.prog 32 #[.slice (some ⟨b,o2,none⟩) m2 c2,.slice (some ⟨wk.heap.size,0,none⟩) 1 1] (wk.alloc (.cells #[.int .u8 10] 5 (1,2))) fun e w' => e=.returned (Lib.cutV (some ⟨b,o2,none⟩) m2 c2 1 (Lib.index (t.drop sz) [10]))∧Hid (Below wk.heap.size wk w')):=fun wk hk => by
    obtain ⟨h1,h2,h3⟩:=HE.out wk hk
    have:=cutB N wk h1 h2 M h3 (some ⟨b,o2,none⟩) c2 (t.drop sz) (HRest.out wk hk) (by rw [hdl]; omega)
    rw [hdl] at this
    exact this
   have kc:=fun (w : World) (C : Array Value) (n c : Nat) => Lib.run_convert_bytes_const (P:=Tryz.prog) w 22 5 C n c Tryz.underlying22 Tryz.underlying5
   have HSz : Hid (sz < t.length):=by show _ < _; rw [HN.out]; exact hs
   have hmn : m2 + sz=n:=by omega
   clear ho2 hm2 hc2
   rcases line_cut (t.drop sz) with hno | ⟨x,r,hx,hnx⟩
   ·have HFin : Hid (dRead 120 t=(L.map (·.1),sz,8)):=by
     have h1:=HD.out.bad HSz.out (by rw [dLine_none hno]; decide)
     rw [dLine_none hno] at h1
     exact h1
    have hi : Lib.index (t.drop sz) [10]=-1:=index_noc 10 _ hno
    rw [hi] at HCut
    have hcv : Lib.cutV (some ⟨b,o2,none⟩) m2 c2 1 (-1)=.tuple #[.slice (some ⟨b,o2,none⟩) m2 c2,.slice none 0 0,.bool false]:=rfl
    rw [hcv] at HCut
    clear hi hcv hno hdl
    go_upto_region 3 with (go_at_call 32; refine (HCut.out _ HB.out).mono ?_; rintro e w2 ⟨rfl,HB2⟩)
    go_wp2_with (fail)
    go_ret3
    exact HPost.out _ _ _ _ _ _ HFin.out (HR.out.below HB2.out) (below_step HB.out HB2.out)
   ·have hxl : x.length + 1≤m2:=by rw [← hdl,hx]; simp
    have hi : Lib.index (t.drop sz) [10]=(x.length : Int):=by rw [hx]; exact index_c 10 x r hnx
    rw [hi] at HCut
    obtain ⟨vr,hvr⟩ : ∃ vr,Lib.fromV (some ⟨b,o2,none⟩) m2 c2 (x.length + 1)=vr:=⟨_,rfl⟩
    have hcv : Lib.cutV (some ⟨b,o2,none⟩) m2 c2 1 (x.length : Int)=.tuple #[.slice (some ⟨b,o2,none⟩) x.length c2,vr,.bool true]:=by
     unfold Lib.cutV
     rw [if_pos (by omega),← hvr]
     rfl
    rw [hcv] at HCut
    have HLine : Hid (dLine (t.drop sz)=((recSays x).1,(recSays x).2,x.length + 1)):=by show _=_; rw [hx]; exact dLine_app hnx
    have HX : Hid (∀ wk,Below w.heap.size w wk→BytesL M wk (some ⟨b,o2,none⟩) c2 x):=fun wk hk => by
     have hb:=HRest.out wk hk
     refine ⟨by have:=hb.le; omega,hb.big,(fun e => by cases e),fun p hp => ?_⟩
     rcases hb.one p hp with h1 | ⟨b',o',e,hlt,hc⟩
     ·rw [hx] at h1; simp at h1
     ·refine Or.inr ⟨b',o',e,hlt,fun i z hi => hc i z ?_⟩
      have hil:=(List.getElem?_eq_some_iff.1 hi).1
      rw [hx,List.getElem?_append_left hil]
      exact hi
    have HConv : Hid (∀ wk,Below w.heap.size w wk→(convert 22 9 (.slice (some ⟨b,o2,none⟩) x.length c2)).run Tryz.prog wk=.ok (.string (bs x)) wk):=fun wk hk => conv_bytes (HX.out wk hk)
    have HPa : Hid (∀ wk,Below w.heap.size w wk→Calls Tryz.prog 33 #[.string (bs x)] wk (RecKt wk (recSays x).2 (.int .i64 (recSays x).1))):=fun wk hk => by
     obtain ⟨h1,h2,_⟩:=HE.out wk hk
     refine (recParseC N (bs x) wk h2 h1).mono ?_
     intro e w' hk'
     rw [bs_data] at hk'
     exact hk'.T
    have HBad : Hid (¬ (recSays x).1=0→dRead 120 t=(L.map (·.1),sz,(recSays x).1)):=fun hne => by
     have h1:=HD.out.bad HSz.out (by rw [HLine.out]; exact hne)
     rw [HLine.out] at h1
     exact h1
    have HMany : Hid ((recSays x).1=0→L.length=120→dRead 120 t=(L.map (·.1),sz,2)):=fun h0 h120 => HD.out.many HSz.out (by rw [HLine.out]; exact h0) (by rw [List.length_map]; exact h120)
    have HMore : Hid ((recSays x).1=0→L.length < 120→DIn 120 t (L.map (·.1) ++ [(recSays x).2]) (sz + (x.length + 1))):=fun h0 hm => by
     have:=HD.out.more HSz.out (by rw [HLine.out]; exact h0) (by rw [List.length_map]; exact hm)
     rw [HLine.out] at this
     exact this
    clear hi hcv hvr hx hnx hdl
    generalize (recSays x).1=er at *
    generalize (recSays x).2=rr at *
    generalize bs x=sx at *
    obtain ⟨xn,hxn⟩ : ∃ xn,x.length=xn:=⟨_,rfl⟩
    rw [hxn] at HCut HConv HMore hxl
    clear hxn HX HLine HRest
    go_upto_region 3 with (go_at_call 32; refine (HCut.out _ HB.out).mono ?_; rintro e w2 ⟨rfl,HB2⟩)
    have HBw2 : Hid (Below w.heap.size w w2):=below_step HB.out HB2.out
    have HR2 : Hid (RecRow w.heap.size w2 (.slice la L.length lc) L):=HR.out.below HB2.out
    have hcn:=HConv.out w2 HBw2.out
    clear HCut HB HR HB2 HConv
    go_upto_region 6 with (go_at_call 33; refine (HPa.out _ HBw2.out).mono ?_; rintro e w3 ⟨sa,sc,ia,ic,rfl,HO3,HB3⟩)
    obtain ⟨W4,hW4,hb4,hsz4,m0,m1,m2',m3,m4,m5⟩:=rbox w3 rr.kind rr.co rr.ep rr.pl (.slice sa rr.says.length sc) (.slice ia rr.img.length ic)
    try rw [hW4]
    have HS4 : Hid (W4.heap.size=w3.heap.size + 1):=hsz4
    have HB24 : Hid (Below w2.heap.size w2 W4):=below_step HB3.out hb4
    have HO4 : Hid (RecT W4 sa sc ia ic rr):=HO3.out.below hb4
    have HR4 : Hid (RecRow w.heap.size W4 (.slice la L.length lc) L):=HR2.out.below HB24.out
    have HBw4 : Hid (Below w.heap.size w W4):=below_step HBw2.out HB24.out
    clear hsz4 hW4 hcn HO3 HB3 hb4 HB24 HR2 HPa
    by_cases h0 : er=0
    ·have hne : (er != 0)=false:=by rw [h0]; rfl
     by_cases h120 : L.length=120
     ·have HFin : Hid (dRead 120 t=(L.map (·.1),sz,2)):=HMany.out h0 h120
      clear h0 m0 m1 m2' m3 m4 m5
      go_wp2_with (fail)
      go_ret3
      exact HPost.out _ _ _ _ _ _ HFin.out HR4.out HBw4.out
     ·have HNx : Hid (DIn 120 t (L.map (·.1) ++ [rr]) (sz + (xn + 1))):=HMore.out h0 (by have:=HLm.out; omega)
      have h120i : ¬ (L.length : Int)=120:=by omega
      have hR1 : L.length≤100000:=by have:=HLm.out; omega
      have hC : w.heap.size≤W4.heap.size:=HBw4.out.size
      clear h0
      go_wp2_with (at_builtin; refine append_rec W4 rfl _ _ rfl w.heap.size (.slice la L.length lc) L rr (sa,sc,ia,ic) rfl HR4.out HO4.out _ rfl rfl hR1 hC ?_; intro v5 w5 HR5 HB5)
      go_roundw
      case rel => exact ⟨sz + (xn + 1),L ++ [(rr,(sa,sc,ia,ic))],by omega,by go_num,(by show DIn _ _ _ _; rw [List.map_append]; exact HNx.out),HR5,HBw4.out.trans HB5.out⟩
      case measure => simp [intOf]; omega
    ·have hne : (er != 0)=true:=by simpa using h0
     have HFin : Hid (dRead 120 t=(L.map (·.1),sz,er)):=HBad.out h0
     clear h0 m0 m1 m2' m3 m4 m5
     go_wp2_with (fail)
     go_ret3
     exact HPost.out _ _ _ _ _ _ HFin.out HR4.out HBw4.out
  ·obtain rfl : sz=n:=by omega
   have HFin : Hid (dRead 120 t=(L.map (·.1),sz,0)):=HD.out.over HN.out.symm
   go_wp2_with (fail)
   go_ret3
   exact HPost.out _ _ _ _ _ _ HFin.out HR.out HB.out

end Go.Proofs.YtfaggdkiffhdbaaGreatDoor
