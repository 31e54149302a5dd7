/- CodeText of the reckoning: the text of a right program. -/
import Derived.Test.YtfaokaohhchdhaaGreatDoorRefText
namespace Go.Proofs.YtfaokaohhchdhaaGreatDoor
open Go.RowKit Go.Maps

theorem IS.nums {B : Nat} {w : World} {v : Value} {l : List Int} (h : IS B w v l) (hl : l.length ≤ 1000000) : NumsAt w.heap.size w v l.length (fun k => l.getD k 0):=by
 obtain ⟨a,cap,rfl,h | ⟨g,rfl,_,hg,hc⟩⟩:=h.at
 ·subst h; exact ⟨a,cap,rfl,by simp,Or.inl rfl⟩
 ·refine ⟨_,cap,rfl,by omega,Or.inr ⟨g,0,rfl,hg,fun i hi => ?_⟩⟩
  rw [Nat.zero_add]
  exact hc i _ (by simp [hi])

theorem NumsAt.up {N M : Nat} {w : World} {v : Value} {n : Nat} {z : Nat→Int} (h : NumsAt N w v n z) (hm : N ≤ M) : NumsAt M w v n z:=by
 obtain ⟨a,cap,rfl,hn,h | ⟨b,o,rfl,hb,hc⟩⟩:=h
 ·exact ⟨a,cap,rfl,hn,Or.inl h⟩
 ·exact ⟨_,cap,rfl,hn,Or.inr ⟨b,o,rfl,by omega,hc⟩⟩

theorem range_getD (l : List Int) : (List.range l.length).map (fun k => l.getD k 0) = l:=by
 apply List.ext_getElem?
 intro i
 by_cases h : i < l.length
 ·simp [h]
 ·simp [h]

theorem concat4 (W : World) (x1 x2 x3 x4 : Int) (M : Nat) (hM : M ≤ W.heap.size) (va : Value) (n : Nat) (z : Nat→Int) (hva : NumsAt M W va n z) (hn : n ≤ 900) (B C : Nat) (hB : W.heap.size = B) (hC : B + 1 = C) :
  Calls Tryz.prog 87 #[.slice (some ⟨C,0,none⟩) 2 2] ((W.alloc (.cells #[.int .i64 x1,.int .i64 x2,.int .i64 x3,.int .i64 x4] 3)).alloc (.cells #[.slice (some ⟨B,0,none⟩) 4 4,va] 30)) fun e w' => ∃ v',e = .returned v'∧Hid (IS 0 w' v' (x1 :: x2 :: x3 :: x4 :: (List.range n).map z))∧Hid (Below W.heap.size W w'):=by
 subst hB
 subst hC
 have hk1 : Below W.heap.size W (W.alloc (.cells #[.int .i64 x1,.int .i64 x2,.int .i64 x3,.int .i64 x4] 3)):=below_alloc _ _
 have his:=(is_made W [x1,x2,x3,x4] 4 rfl (by omega)).nums (by simp)
 have hs1 : (W.alloc (.cells #[.int .i64 x1,.int .i64 x2,.int .i64 x3,.int .i64 x4] 3)).heap.size = W.heap.size + 1:=by simp
 have hva1 : NumsAt W.heap.size (W.alloc (.cells #[.int .i64 x1,.int .i64 x2,.int .i64 x3,.int .i64 x4] 3)) va n z:=(hva.below (hk1.mono hM)).up hM
 change NumsAt (W.alloc (.cells #[.int .i64 x1,.int .i64 x2,.int .i64 x3,.int .i64 x4] 3)).heap.size (W.alloc (.cells #[.int .i64 x1,.int .i64 x2,.int .i64 x3,.int .i64 x4] 3)) (.slice (some ⟨W.heap.size,0,none⟩) 4 4) 4 (fun k => [x1,x2,x3,x4].getD k 0) at his
 generalize W.alloc (.cells #[.int .i64 x1,.int .i64 x2,.int .i64 x3,.int .i64 x4] 3) = W1 at *
 have hk2 : Below W1.heap.size W1 (W1.alloc (.cells #[.slice (some ⟨W.heap.size,0,none⟩) 4 4,va] 30)):=below_alloc _ _
 have hs2 : (W1.alloc (.cells #[.slice (some ⟨W.heap.size,0,none⟩) 4 4,va] 30)).heap.size = W.heap.size + 2:=by simp [hs1]
 have ecat : catI (fun i => if i = 0 then 4 else n) (fun i => if i = 0 then (fun k => [x1,x2,x3,x4].getD k 0) else z) 2 = x1 :: x2 :: x3 :: x4 :: (List.range n).map z:=by
  simp [catI,List.range_succ]
 have hrows : RowsI (W.heap.size + 2) (W1.alloc (.cells #[.slice (some ⟨W.heap.size,0,none⟩) 4 4,va] 30)) (.slice (some ⟨W.heap.size + 1,0,none⟩) 2 2) 2 (fun i => if i = 0 then 4 else n) (fun i => if i = 0 then (fun k => [x1,x2,x3,x4].getD k 0) else z):=by
  refine ⟨_,_,_,rfl,by omega,by omega,fun i hi => ?_⟩
  rcases i with _ | _ | i
  ·refine ⟨.slice (some ⟨W.heap.size,0,none⟩) 4 4,?_,?_⟩
   ·rw [← hs1,World.cell?_alloc_new]; rfl
   ·exact (his.below hk2).up (by omega)
  ·refine ⟨va,?_,?_⟩
   ·rw [← hs1,World.cell?_alloc_new]; rfl
   ·exact (hva1.below (hk2.mono (by omega))).up (by omega)
  ·omega
 refine (concatI (W.heap.size + 2) _ 2 _ _ _ (by omega) hrows (by rw [ecat]; simp only [List.length_cons,List.length_map,List.length_range]; omega)).mono ?_
 rintro e w' ⟨v',rfl,hI,hB⟩
 refine ⟨v',rfl,?_,below_step hk1 ((hk2.mono (by omega)).trans (hB.out.mono (by omega)))⟩
 have:=hI.out
 rw [ecat] at this
 obtain ⟨h1,h2⟩:=this
 refine ⟨h1,?_⟩
 rcases h2 with h2 | ⟨g,cap,cur,e,_,h3⟩
 ·exact Or.inl h2
 ·exact Or.inr ⟨g,cap,cur,e,Nat.zero_le _,h3⟩

set_option maxRecDepth 20000 in
set_option maxHeartbeats 4000000 in
/-- CodeText of the reckoning. -/
theorem codeText (N : Nat) (vp : Value) (np : Nat) (P : Nat→Pc) (w : World) (hN : N ≤ w.heap.size) (he : NEnv N w) (hp : ProcsAt N w vp np P) (hc : codeErr np P = 0) :
  Calls Tryz.prog 39 #[vp] w fun e w' => e = .returned (.string (bs (progT P np)))∧Below w.heap.size w w':=by
 have HP : Hid (ProcsAt N w vp np P):=hp
 have HE : Hid (NEnv N w):=he
 obtain ⟨ap,cp,rfl,hnp,hp⟩:=hp
 obtain ⟨n1,n4,hpc,_⟩:=code_zero hc
 have HC : Hid (codeErr np P = 0):=hc
 obtain ⟨pb,po,rfl,hpb,hp⟩ : ∃ b o,ap = some ⟨b,o,none⟩∧b < N∧∀ i,i < np→∃ vc,w.cell? ⟨b,o + i * 3,none⟩ = some (.int .i64 (P i).params)∧w.cell? ⟨b,o + i * 3 + 1,none⟩ = some (.int .i64 (P i).regs)∧w.cell? ⟨b,o + i * 3 + 2,none⟩ = some vc∧CodeAt N w vc (P i).n (P i).ins:=by
  rcases hp with h | h
  ·omega
  ·exact h
 have HPC : Hid (∀ wi,Below w.heap.size w wi→∀ i,i < np→∃ vc,wi.cell? ⟨pb,po + i * 3,none⟩ = some (.int .i64 (P i).params)∧wi.cell? ⟨pb,po + i * 3 + 1,none⟩ = some (.int .i64 (P i).regs)∧wi.cell? ⟨pb,po + i * 3 + 2,none⟩ = some vc∧Hid (CodeAt N w vc (P i).n (P i).ins)):=fun wi hb i hi => by
  obtain ⟨vc,c0,c1,c2,hv⟩:=hp i hi
  have hlt : pb < w.heap.size:=by omega
  exact ⟨vc,by rw [hb.cell hlt]; exact c0,by rw [hb.cell hlt]; exact c1,by rw [hb.cell hlt]; exact c2,hv⟩
 have HNs : Hid (∀ j,j < np→1 ≤ (P j).n∧(P j).n ≤ 2000):=fun j hj => (pcErr_fits (hpc j hj)).2
 have HPut : Hid (∀ (W : World) (l : List UInt8) (nv : Value) (zs : List Int),Below w.heap.size w W→SB w.heap.size W (bs l)→IS 0 W nv zs→(∀ z ∈ zs,i64 z)→1 ≤ zs.length→zs.length ≤ 1000→l.length ≤ 10000000→Calls Tryz.prog 84 #[nv,.pointer (some ⟨w.heap.size,0,none⟩)] W fun e w' => (∃ v,e = .returned v)∧Hid (SB w.heap.size w' (bs (l ++ lnT zs)))∧Hid (But w.heap.size W w')):=fun W l nv zs hb hS hI hz h1 h2 hl => by
  have:=putC N W.heap.size w.heap.size l nv zs.length (fun k => zs.getD k 0) W hN (Nat.le_refl _) (HE.out.below (hb.mono hN)) hS (hI.nums (by omega)) (fun k hk => hz _ (by simp [hk])) h1 h2 hl
  rw [range_getD] at this
  exact this
 clear hp hc he hpc
 go_enter Tryz.func39,Tryz.ntmps39
 go_upto_region 4 with (fail)
 go_loopw [12] (fun i wr => ∃ k : Nat,k ≤ np∧i = .int .i64 k∧Hid (SB w.heap.size wr (bs (progT P k)))∧Hid (Below w.heap.size w wr)) (fun i _ => np - (intOf i).toNat)
 case atStart => exact ⟨0,by omega,rfl,(by show SB _ _ _; exact heap_alloc_new w _),below_alloc _ _⟩
 case round =>
  obtain ⟨k,hk0,rfl,HW,HB⟩:=hrel
  have hsz:=HB.out.size
  have hpw : pb < wr.heap.size:=by omega
  by_cases hk : k < np
  ·obtain ⟨vc,c0,c1,c2,HV⟩:=HPC.out wr HB.out k hk
   obtain ⟨av,cv,rfl,hcn⟩:=HV.out.shape
   have hki : (k : Int) < (np : Int):=by omega
   obtain ⟨hn1,hn2⟩:=HNs.out k hk
   have HLine : Hid (∀ (W : World) (X : Nat),W.heap.size = X→Below wr.heap.size wr W→Calls Tryz.prog 84 #[.slice (some ⟨X,0,none⟩) 3 3,.pointer (some ⟨w.heap.size,0,none⟩)] (W.alloc (.cells #[.int .i64 (P k).params,.int .i64 (P k).regs,.int .i64 (P k).n] 3)) fun e w' => (∃ v,e = .returned v)∧Hid (SB w.heap.size w' (bs (progT P k ++ lnT (headZs (P k)))))∧Hid (But w.heap.size (W.alloc (.cells #[.int .i64 (P k).params,.int .i64 (P k).regs,.int .i64 (P k).n] 3)) w')):=fun W X hX hbW => by
    subst hX
    have hbA:=below_step hbW (below_alloc W (.cells #[.int .i64 (P k).params,.int .i64 (P k).regs,.int .i64 (P k).n] 3))
    exact HPut.out _ _ _ _ (HB.out.trans (hbA.mono hsz)) (HW.out.keep hbA) (is_made W (headZs (P k)) 3 rfl (by omega)) (head_i64 HC.out hk) (by show 1 ≤ 3; omega) (by show 3 ≤ 1000; omega) (by have:=prog_len HC.out (j:=k) (by omega); omega)
   have HBX : Hid (∀ w1,But w.heap.size ((wr.alloc (.cells #[.int .i64 (P k).params,.int .i64 (P k).regs,.slice av (P k).n cv] 38)).alloc (.cells #[.int .i64 (P k).params,.int .i64 (P k).regs,.int .i64 (P k).n] 3)) w1→w1.cell? ⟨wr.heap.size,2,none⟩ = some (.slice av (P k).n cv)):=fun w1 hkb => by
    have hblk : ((wr.alloc (.cells #[.int .i64 (P k).params,.int .i64 (P k).regs,.slice av (P k).n cv] 38)).alloc (.cells #[.int .i64 (P k).params,.int .i64 (P k).regs,.int .i64 (P k).n] 3)).heap[wr.heap.size]? = some (.cells #[.int .i64 (P k).params,.int .i64 (P k).regs,.slice av (P k).n cv] 38):=by
     rw [(below_alloc (wr.alloc (.cells #[.int .i64 (P k).params,.int .i64 (P k).regs,.slice av (P k).n cv] 38)) _).block wr.heap.size (by simp)]
     exact heap_alloc_new wr _
    have hlt:=HW.out.lt
    have:=hkb.block wr.heap.size (by simp; omega) (by omega)
    unfold World.cell?
    rw [this,hblk]; rfl
   have HBW : Hid (∀ w1,But w.heap.size ((wr.alloc (.cells #[.int .i64 (P k).params,.int .i64 (P k).regs,.slice av (P k).n cv] 38)).alloc (.cells #[.int .i64 (P k).params,.int .i64 (P k).regs,.int .i64 (P k).n] 3)) w1→Below w.heap.size w w1):=fun w1 hkb =>
    (HB.out.trans ((below_step (below_alloc wr _) (below_alloc _ _)).mono hsz)).trans (hkb.low (Nat.le_refl _) (Nat.le_trans hsz (below_step (below_alloc wr _) (below_alloc _ _)).size))
   go_upto_region 8 with (first
    | (go_at_call 84; refine (HLine.out _ _ (by simp) (below_alloc _ _)).mono ?_; rintro e w2 ⟨⟨v2,rfl⟩,HW2,HK2⟩; have x2:=HBX.out _ HK2.out))
   have HB2 : Hid (Below w.heap.size w w2):=HBW.out _ HK2.out
   have HT0 : Hid (progT P k ++ lnT (headZs (P k)) = progT P k ++ (lnT (headZs (P k)) ++ codeT (P k).ins 0)):=by show _ = _; unfold codeT; rw [catB,List.append_nil]
   clear HLine HBX HBW HK2 x2
   go_loopw [29] (fun i wr => ∃ j : Nat,j ≤ (P k).n∧i = .int .i64 j∧Hid (SB w.heap.size wr (bs (progT P k ++ (lnT (headZs (P k)) ++ codeT (P k).ins j))))∧Hid (Below w.heap.size w wr)) (fun i _ => (P k).n - (intOf i).toNat)
   case atStart => exact ⟨0,by omega,rfl,(by show SB _ _ _; rw [← HT0.out]; exact HW2.out),HB2⟩
   case round =>
    clear c0 c1 c2 hsz hpw HW HT0 HW2
    obtain ⟨j,hj0,rfl,HW,HB3⟩:=hrel
    have hsz:=HB3.out.size
    by_cases hj : j < (P k).n
    ·obtain ⟨cb,co,e1,hcb,hcc⟩ : ∃ b o,av = some ⟨b,o,none⟩∧b < N∧∀ i,i < (P k).n→∃ va,wr.cell? ⟨b,o + i * 5,none⟩ = some (.int .i64 ((P k).ins i).op)∧wr.cell? ⟨b,o + i * 5 + 1,none⟩ = some (.int .i64 ((P k).ins i).a)∧wr.cell? ⟨b,o + i * 5 + 2,none⟩ = some (.int .i64 ((P k).ins i).b) ∧
       wr.cell? ⟨b,o + i * 5 + 3,none⟩ = some (.int .i64 ((P k).ins i).c)∧wr.cell? ⟨b,o + i * 5 + 4,none⟩ = some va∧NumsAt N wr va ((P k).ins i).n ((P k).ins i).z:=by
      obtain ⟨a',c',e,_,h | h⟩:=HV.out.below (HB3.out.mono hN)
      ·omega
      ·cases e; exact h
     subst e1
     obtain ⟨va,y0,y1,y2,y3,y4,hva⟩:=hcc j hj
     have HVA : Hid (NumsAt N wr va ((P k).ins j).n ((P k).ins j).z):=hva
     obtain ⟨xa,ca,rfl,_⟩:=hva.shape
     have hcw : cb < wr.heap.size:=by omega
     have hji : (j : Int) < ((P k).n : Int):=by omega
     have hal : ((P k).ins j).n ≤ 900:=by have:=(code_ins HC.out hk hj).2.1; omega
     have HCat : Hid (∀ (W : World) (B C : Nat),W.heap.size = B→B + 1 = C→Below wr.heap.size wr W→Calls Tryz.prog 87 #[.slice (some ⟨C,0,none⟩) 2 2] ((W.alloc (.cells #[.int .i64 ((P k).ins j).op,.int .i64 ((P k).ins j).a,.int .i64 ((P k).ins j).b,.int .i64 ((P k).ins j).c] 3)).alloc (.cells #[.slice (some ⟨B,0,none⟩) 4 4,.slice xa ((P k).ins j).n ca] 30)) fun e w' => ∃ v',e = .returned v'∧Hid (IS 0 w' v' (insZs ((P k).ins j)))∧Hid (Below wr.heap.size wr w')):=fun W B C hB hC hbW => by
      have hbn : Below N wr W:=hbW.mono (Nat.le_trans hN hsz)
      refine (concat4 W _ _ _ _ N (Nat.le_trans (Nat.le_trans hN hsz) hbW.size) _ _ _ (HVA.out.below hbn) hal B C hB hC).mono ?_
      rintro e w' ⟨v',rfl,hI,hb⟩
      exact ⟨v',rfl,hI,below_step hbW hb.out⟩
     have HLine : Hid (∀ (W : World) (nv : Value),Below wr.heap.size wr W→IS 0 W nv (insZs ((P k).ins j))→Calls Tryz.prog 84 #[nv,.pointer (some ⟨w.heap.size,0,none⟩)] W fun e w' => (∃ v,e = .returned v)∧Hid (SB w.heap.size w' (bs ((progT P k ++ (lnT (headZs (P k)) ++ codeT (P k).ins j)) ++ lnT (insZs ((P k).ins j)))))∧Hid (But w.heap.size W w')):=fun W nv hbW hnv => by
      refine HPut.out _ _ _ _ (HB3.out.trans (hbW.mono hsz)) (HW.out.keep hbW) hnv (code_i64 HC.out hk hj) (by rw [insZs_len]; omega) (by rw [insZs_len]; have:=(code_ins HC.out hk hj).2.1; omega) ?_
      have e1:=prog_len HC.out (j:=k) (by omega)
      have e2:=proc_len HC.out hk (m:=j) (by omega)
      rw [List.length_append]; omega
     have HT1 : Hid ((progT P k ++ (lnT (headZs (P k)) ++ codeT (P k).ins j)) ++ lnT (insZs ((P k).ins j)) = progT P k ++ (lnT (headZs (P k)) ++ codeT (P k).ins (j + 1))):=by
      show _ = _
      unfold codeT
      rw [catB_snoc,Nat.zero_add,List.append_assoc,List.append_assoc]
     clear hcc hva
     go_wp2_with (first
      | (go_at_call 87; refine (HCat.out _ _ _ (by simp) (by simp) (below_alloc _ _)).mono ?_; rintro e w3 ⟨v3,rfl,hI3,HB4⟩; have HL3:=HLine.out w3 v3 HB4.out hI3.out)
      | (go_at_call 84; refine HL3.mono ?_; rintro e w4 ⟨⟨v4,rfl⟩,HW4,HK4⟩))
     go_roundw
     case rel => exact ⟨j + 1,by omega,by go_num,(by show SB _ _ _; rw [← HT1.out]; exact HW4.out),(HB3.out.trans (HB4.out.mono hsz)).trans (HK4.out.low (Nat.le_refl _) (Nat.le_trans hsz HB4.out.size))⟩
     case measure => simp [intOf]; omega
    ·obtain rfl : j = (P k).n:=by omega
     have HT1 : Hid (progT P k ++ (lnT (headZs (P k)) ++ codeT (P k).ins (P k).n) = progT P (k + 1)):=by
      show _ = _
      unfold progT
      rw [catB_snoc,Nat.zero_add]
      rfl
     go_wp2_with fail
     go_roundw
     case rel => exact ⟨k + 1,by omega,by go_num,(by show SB _ _ _; rw [← HT1.out]; exact HW.out),HB3⟩
     case measure => simp [intOf]; omega
  ·obtain rfl : k = np:=by omega
   have q0:=HW.out.cell
   have hw9:=HW.out.lt
   go_wp2_with fail
   go_ret
   exact ⟨rfl,HB.out⟩

end Go.Proofs.YtfaokaohhchdhaaGreatDoor
