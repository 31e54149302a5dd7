/- CodeRead of the reckoning. -/
import Derived.Test.YtfaokaohhchdhaaGreatDoorLinesMath
import Derived.Test.YtfaokaohhchdhaaGreatDoorImgParse
import Derived.Test.YtfaokaohhchdhaaGreatDoorRefNums
import Derived.Test.YtfaokaohhchdhaaGreatDoorRefCode
namespace Go.Proofs.YtfaokaohhchdhaaGreatDoor
open Go.RowKit Go.Maps

/-- What stays and what comes,where an instruction is put behind the others. -/
theorem rproc_step {B Q C g : Nat} {w w3 w2 : World} {x0 x1 : Int} {cv : Value} {gr : Array Value} {items : List (List Int × Value)} {cs : Array Value} (hB : Below B w w3) (hBw : B ≤ w.heap.size) (hQ : w3.heap[Q]? = some (.cells #[.int .i64 x0,.int .i64 x1,cv] 38 (0,0)))
  (hg : w3.heap[g]? = some (.cells gr 3 (0,0))) (hrow : CodeRow C w3 cv items) (hC : B ≤ C) (hgr : (w3.drew.alloc (.cells cs 84)).grownBy w2 cv.ownBlock) :
  Below B w w2∧w2.heap[Q]? = some (.cells #[.int .i64 x0,.int .i64 x1,cv] 38 (0,0))∧w2.heap[g]? = some (.cells gr 3 (0,0))∧Keeps 3 w3 w2:=by
 have hb : Below w3.heap.size w3 (w3.drew.alloc (.cells cs 84)):=below_step ((Below.refl _ _).drew) (below_alloc _ _)
 have hrw:=hrow.row
 have keep : ∀ (k : Nat) (o : Obj),w3.heap[k]? = some o→(∀ c,¬ o = Obj.cells c 84 (0,0))→w2.heap[k]? = some o:=fun k o hk ho => by
  have hlt:=(Array.getElem?_eq_some_iff.1 hk).1
  rw [hgr.block k (Nat.lt_of_lt_of_le hlt hb.size) ?_,hb.block k hlt]
  ·exact hk
  ·intro e
   obtain ⟨_,cur,hc⟩:=hrw k e.symm
   rw [hc] at hk
   injection hk with hk
   exact ho cur hk.symm
 refine ⟨⟨hgr.os.trans (hb.os.trans hB.os),hgr.tape.trans (hb.tape.trans hB.tape),hgr.output.trans (hb.output.trans hB.output),Nat.le_trans hB.size (Nat.le_trans hb.size hgr.size),fun k hk => ?_⟩,keep _ _ hQ (fun c e => by injection e with _ e2 _; exact absurd e2 (by decide)),keep _ _ hg (fun c e => by injection e with _ e2 _; exact absurd e2 (by decide)),fun k cur hk => keep k _ hk (fun c e => by injection e with _ e2 _; exact absurd e2 (by decide))⟩
 have hk3 : k < w3.heap.size:=Nat.lt_of_lt_of_le hk (Nat.le_trans hBw hB.size)
 rw [hgr.block k (Nat.lt_of_lt_of_le hk3 hb.size) ?_,hb.block k hk3]
 ·exact hB.block k hk
 ·intro e
  have:=(hrw k e.symm).1
  omega

/-- .. and is stored. -/
theorem rproc_store {B Q C : Nat} {w w2 : World} {x0 x1 : Int} {cv v' : Value} {items : List (List Int × Value)} {l : List Int} {av : Value} (hB : Below B w w2) (hQ : w2.heap[Q]? = some (.cells #[.int .i64 x0,.int .i64 x1,cv] 38 (0,0))) (hwQ : B ≤ Q)
  (hown : w2.ownsRow C 84 5 v' (items.length + 1) (flatI items ++ [.int .i64 (l.getD 0 0),.int .i64 (l.getD 1 0),.int .i64 (l.getD 2 0),.int .i64 (l.getD 3 0),av])) (hi : ∀ x ∈ items,ArgsAt w2 x.2 (x.1.length - 4) (fun j => x.1.getD (j + 4) 0)) (ha : ArgsAt w2 av (l.length - 4) (fun j => l.getD (j + 4) 0)) :
  Below B w (w2.setCell ⟨Q,2,none⟩ v')∧(w2.setCell ⟨Q,2,none⟩ v').heap[Q]? = some (.cells #[.int .i64 x0,.int .i64 x1,v'] 38 (0,0))∧CodeRow C (w2.setCell ⟨Q,2,none⟩ v') v' (items ++ [(l,av)]):=by
 have hk3 : Keeps 3 w2 (w2.setCell ⟨Q,2,none⟩ v'):=Keeps.set hQ v' (by decide)
 have hk8 : Keeps 84 w2 (w2.setCell ⟨Q,2,none⟩ v'):=Keeps.set hQ v' (by decide)
 refine ⟨hB.setCell (p:=⟨Q,2,none⟩) hwQ _,?_,?_,fun x hx => ?_⟩
 ·rw [heap_setCell_same w2 Q 2 _ _ v' hQ]; rfl
 ·rw [List.length_append,flatI_snoc]
  exact own_keep hown hk8
 ·rcases List.mem_append.1 hx with hx | hx
  ·exact (hi x hx).stay hk3
  ·rw [List.mem_singleton] at hx
   subst hx
   exact ha.stay hk3

/-- What stays and what comes,where a procedure is put behind the others. -/
theorem rread_step {B C : Nat} {w w3 w2 : World} {pv v' : Value} {l : List (Pc × Value)} {p : Pc} {cv : Value} {cs : Array Value} (hB : Below B w w3) (hBw : B ≤ w.heap.size) (hrow : ProcRow C w3 pv l) (hcv : CodeHeap w3 cv p.n p.ins) (hC : B ≤ C) (hgr : (w3.alloc (.cells cs 38)).grownBy w2 pv.ownBlock)
  (hown : w2.ownsRow C 38 3 v' (l.length + 1) (flatPc l ++ [.int .i64 p.params,.int .i64 p.regs,cv])) :
  Below B w w2∧ProcRow C w2 v' (l ++ [(p,cv)]):=by
 have hb : Below w3.heap.size w3 (w3.alloc (.cells cs 38)):=below_alloc _ _
 have hrw:=hrow.row
 have keep : ∀ (k : Nat) (o : Obj),w3.heap[k]? = some o→(∀ c,¬ o = Obj.cells c 38 (0,0))→w2.heap[k]? = some o:=fun k o hk ho => by
  have hlt:=(Array.getElem?_eq_some_iff.1 hk).1
  rw [hgr.block k (Nat.lt_of_lt_of_le hlt hb.size) ?_,hb.block k hlt]
  ·exact hk
  ·intro e
   obtain ⟨_,cur,hc⟩:=hrw k e.symm
   rw [hc] at hk
   injection hk with hk
   exact ho cur hk.symm
 have k8 : Keeps 84 w3 w2:=fun k cur hk => keep k _ hk (fun c e => by injection e with _ e2 _; exact absurd e2 (by decide))
 have k3 : Keeps 3 w3 w2:=fun k cur hk => keep k _ hk (fun c e => by injection e with _ e2 _; exact absurd e2 (by decide))
 refine ⟨⟨hgr.os.trans (hb.os.trans hB.os),hgr.tape.trans (hb.tape.trans hB.tape),hgr.output.trans (hb.output.trans hB.output),Nat.le_trans hB.size (Nat.le_trans hb.size hgr.size),fun k hk => ?_⟩,?_,fun x hx => ?_⟩
 ·have hk3 : k < w3.heap.size:=Nat.lt_of_lt_of_le hk (Nat.le_trans hBw hB.size)
  rw [hgr.block k (Nat.lt_of_lt_of_le hk3 hb.size) ?_,hb.block k hk3]
  ·exact hB.block k hk
  ·intro e
   have:=(hrw k e.symm).1
   omega
 ·rw [List.length_append,flatPc_snoc]
  exact hown
 ·rcases List.mem_append.1 hx with hx | hx
  ·exact (hrow.2 x hx).stay k8 k3
  ·rw [List.mem_singleton] at hx
   subst hx
   exact hcv.stay k8 k3

/-- The pieces between line's ends: lines,and the last. -/
theorem pieces_lines (s : ByteArray) : ∃ (ls : List (List UInt8)) (x : List UInt8) (m : Nat),(piecesB 10 s).length = m + 1∧ls.length = m∧s.data.toList = unl ls ++ x∧(∀ y ∈ ls,¬ (10 : UInt8) ∈ y)∧(¬ (10 : UInt8) ∈ x)∧(∀ (i : Nat) (l : List UInt8),ls[i]? = some l→(piecesB 10 s)[i]? = some (bs l))∧(piecesB 10 s)[m]? = some (bs x):=by
 have hd:=piecesB_data 10 s
 have hl:=piecesB_len 10 s
 have hne : splitC 10 s.data.toList ≠ []:=splitC_ne _ _
 have e:=List.dropLast_concat_getLast hne
 generalize (splitC 10 s.data.toList).dropLast = ls at *
 generalize (splitC 10 s.data.toList).getLast hne = x at *
 have hj:=join_split 10 s.data.toList
 have hm:=splitC_mem 10 s.data.toList
 rw [← e] at hj hm
 rw [← e] at hd
 have hlen : (piecesB 10 s).length = ls.length + 1:=by
  have:=congrArg List.length hd
  simpa using this
 have hat : ∀ (i : Nat) (l : List UInt8),(ls ++ [x])[i]? = some l→(piecesB 10 s)[i]? = some (bs l):=fun i l h => by
  rw [← hd,List.getElem?_map] at h
  obtain ⟨b,h1,h2⟩:=Option.map_eq_some_iff.1 h
  rw [h1,← h2]
  rfl
 refine ⟨ls,x,ls.length,hlen,rfl,by rw [← hj]; exact join_unl ls x,fun y hy => hm y (by simp [hy]),hm x (by simp),fun i l h => hat i l ?_,hat _ _ (by simp)⟩
 rw [List.getElem?_append_left (List.getElem?_eq_some_iff.1 h).1]
 exact h

set_option maxRecDepth 20000 in
set_option maxHeartbeats 4000000 in
/-- CodeRead of the reckoning. -/
theorem codeRead (N : Nat) (s : ByteArray) (hs : s.size ≤ 60000) (w : World) (hN : N ≤ w.heap.size) (he : NEnv N w) :
    Calls Tryz.prog 41 #[.string s] w fun e w' => ParsePost s w e w' := by
  obtain ⟨ls, x, m, hlen, hlsm, htxt, hlf, hxf, hat, hxat⟩ := pieces_lines s
  have HE : Hid (NEnv N w) := he
  have HPE : Hid (parseErr s.data.toList = match readL s.data.toList.length s.data.toList with
      | none => 1
      | some L => codeErr L.length (nthP L)) := by
    show _ = _
    unfold parseErr; rw [if_neg (by have : s.data.toList.length = s.size := by simp
                                    omega)]
    rfl
  have hsl0 : s.data.toList.length ≤ 60000 := by simpa using hs
  have HSp : Hid (Calls Tryz.prog 89 #[.string s, .string ⟨#[10]⟩] w fun e w' => e = .returned (.slice (some ⟨w.heap.size, 0, none⟩) (m + 1) (m + 1)) ∧ w' = w.alloc (.cells ((piecesB 10 s).map Value.string).toArray 9)) := by
    have := nsplit N 10 s (by omega) w he
    rw [hlen] at this
    exact this
  have hmany := pieces_many 10 s
  have hm : m ≤ 60000 := by omega
  have HCell : Hid (∀ (k : Nat) (p : ByteArray), (piecesB 10 s)[k]? = some p → (w.alloc (.cells ((piecesB 10 s).map Value.string).toArray 9)).cell? ⟨w.heap.size, k, none⟩ = some (.string p)) := fun k p h => by
    rw [World.cell?_alloc_new]
    simp [h]
  have HSm : Hid (∀ (k : Nat) (p : ByteArray), (piecesB 10 s)[k]? = some p → p.size ≤ 100000) := fun k p h => Nat.le_trans (piece_small h) (by omega)
  have HAt : Hid (∀ (i : Nat) (l : List UInt8), ls[i]? = some l → (piecesB 10 s)[i]? = some (bs l)) := hat
  have qx : (w.alloc (.cells ((piecesB 10 s).map Value.string).toArray 9)).cell? ⟨w.heap.size, m, none⟩ = some (.string (bs x)) := HCell.out m _ hxat
  have hsz : (w.alloc (.cells ((piecesB 10 s).map Value.string).toArray 9)).heap.size = w.heap.size + 1 := by simp
  have hbW : Below w.heap.size w (w.alloc (.cells ((piecesB 10 s).map Value.string).toArray 9)) := below_alloc _ _
  have HBW : Hid (Below w.heap.size w (w.alloc (.cells ((piecesB 10 s).map Value.string).toArray 9))) := hbW
  clear hmany he hat hxat hlen hbW
  generalize w.alloc (.cells ((piecesB 10 s).map Value.string).toArray 9) = W at *
  have hm1 : ((m + 1 : Nat) : Int) - 1 = (m : Int) := by omega
  have hwB : w.heap.size < W.heap.size := by omega
  by_cases hx : x = []
  · subst hx
    have hem : ((bs ([] : List UInt8)).toList).isEmpty = true := by rw [ByteArray.toList_eq]; rfl
    have hslc : ∀ wi : World, (Instr.slice 127 (.slice (some ⟨w.heap.size, 0, none⟩) (m + 1) (m + 1)) none (some (.int .i64 m)) none).run Tryz.prog wi = .ok (.slice (some ⟨w.heap.size, 0, none⟩) m (m + 1)) wi := fun wi => by
      simp [Instr.slice, Instr.sliceBounds, Instr.sliceBound, asIntOf, run_underlying Tryz.underlying127, go_sem]
    go_enter Tryz.func41, Tryz.ntmps41
    have HX0 : Hid (readL s.data.toList.length s.data.toList = (readL s.data.toList.length (unl (ls.drop 0))).map fun l => ([] : List (Pc × Value)).map (·.1) ++ l) := by
      show _ = _
      have : unl (ls.drop 0) = s.data.toList := by rw [List.drop_zero, htxt, List.append_nil]
      rw [this]; simp
    have HU0 : Hid ((unl (ls.drop 0)).length ≤ s.data.toList.length) := by show _ ≤ _; rw [List.drop_zero, htxt, List.append_nil]; exact Nat.le_refl _
    have HLf : Hid (∀ y ∈ ls, ¬ (10 : UInt8) ∈ y) := hlf
    have HLs : Hid (ls.length = m) := hlsm
    clear htxt hxf hlf hlsm
    go_upto_region 7 with (first
      | (go_at_call 89; refine HSp.out.mono ?_; rintro e w1 ⟨rfl, h1⟩; rw [h1]; clear h1))
    clear qx hem hslc HSp hm1
    go_loopw [5, 6] (fun q i wr => ∃ (k : Nat) (ps : List (Pc × Value)) (u : Nat), k ≤ m ∧ i = .int .i64 k ∧ (Hid ((unl (ls.drop k)).length ≤ u) ∧ Hid (readL s.data.toList.length s.data.toList = (readL u (unl (ls.drop k))).map fun l => ps.map (·.1) ++ l) ∧ Hid (ps.length ≤ k)) ∧ Hid (Below (w.heap.size + 1) W wr ∧ ProcRow (w.heap.size + 1) wr q ps)) (fun _ i _ => m - (intOf i).toNat)
    case atStart => exact ⟨0, [], s.data.toList.length, Nat.zero_le _, rfl, ⟨HU0, HX0, Nat.le_refl _⟩, ⟨Below.refl _ _, ProcRow.nil _ _⟩⟩
    case round =>
      clear HX0 HU0
      obtain ⟨k, ps, u, hk0, rfl, ⟨HU, HX, HPl⟩, HM⟩ := hrel
      obtain ⟨m1, m2⟩ := HM.out
      have hwr : w.heap.size + 1 ≤ wr.heap.size := by have := m1.size; omega
      have HBwr : Hid (Below w.heap.size w wr) := HBW.out.trans (m1.mono (by omega))
      by_cases hk : k < m
      · have hki : (k : Int) < (m : Int) := by omega
        obtain ⟨l0, hl0⟩ : ∃ l0, ls[k]? = some l0 := ⟨ls[k]'(by rw [HLs.out]; exact hk), by simp [HLs.out, hk]⟩
        have q0 : wr.cell? ⟨w.heap.size, k, none⟩ = some (.string (bs l0)) := by rw [m1.cell (p := ⟨w.heap.size, k, none⟩) (by show w.heap.size < w.heap.size + 1; omega)]; exact HCell.out k _ (HAt.out k l0 hl0)
        have hwlt : w.heap.size < wr.heap.size := by omega
        have HNum := rNumbers N (bs l0) (HSm.out k _ (HAt.out k l0 hl0)) wr (by omega) (HE.out.below (HBwr.out.mono hN))
        have hd0 : unl (ls.drop k) = unl (l0 :: ls.drop (k + 1)) := by
          have hkl : k < ls.length := by rw [HLs.out]; exact hk
          rw [List.drop_eq_getElem_cons hkl]
          have : ls[k] = l0 := by simpa [hkl] using hl0
          rw [this]
        have hnx : nextL (unl (ls.drop k)) = (numsOf l0, unl (ls.drop (k + 1))) := by rw [hd0]; exact nextL_unl (HLf.out l0 (List.mem_of_getElem? hl0))
        have hne : unl (ls.drop k) ≠ [] := by rw [hd0, unl]; simp
        have hul : 1 ≤ u := by
          have := HU.out
          have := List.length_pos_iff.2 hne
          omega
        obtain ⟨u', rfl⟩ : ∃ u', u = u' + 1 := ⟨u - 1, by omega⟩
        have HNo : Hid (procL (unl (ls.drop k)) = none → parseErr s.data.toList = 1) := fun h => by
          rw [HPE.out, HX.out, readL, if_neg hne, h]; rfl
        have HYes : Hid (∀ r, procL (unl (ls.drop k)) = some r → Hid (readL s.data.toList.length s.data.toList = (readL u' r.2).map fun l => ps.map (·.1) ++ r.1 :: l) ∧ Hid (r.2.length ≤ u')) := fun r h => by
          refine ⟨?_, ?_⟩
          · show _ = _
            rw [HX.out, readL, if_neg hne, h]
            simp only []
            rw [Option.map_map]; rfl
          · show _ ≤ _
            have := procL_short h
            have := HU.out
            omega
        have HHead : Hid (¬ ((numsOf l0).length = 3 ∧ 1 ≤ (numsOf l0).getD 2 0 ∧ (numsOf l0).getD 2 0 ≤ 2000) → procL (unl (ls.drop k)) = none) := fun h => procL_head (by rw [hnx]; exact h)
        have HLines : Hid ((numsOf l0).length = 3 ∧ 1 ≤ (numsOf l0).getD 2 0 ∧ (numsOf l0).getD 2 0 ≤ 2000 → procL (unl (ls.drop k)) = (takeL ((numsOf l0).getD 2 0).toNat (unl (ls.drop (k + 1)))).map fun r => (mkPc (numsOf l0) r.1, r.2)) := fun h => by
          have := procL_lines (s := unl (ls.drop k)) (by rw [hnx]; exact h)
          rw [hnx] at this
          exact this
        have HFew : Hid (∀ j : Nat, m - (k + 1) < j → takeL j (unl (ls.drop (k + 1))) = none) := fun j hj => takeL_few j _ (fun x hx => HLf.out x (List.mem_of_mem_drop hx)) (by rw [List.length_drop, HLs.out]; exact hj)
        have HRow0 : Hid (ProcRow (w.heap.size + 1) wr u5 ps) := m2
        have HBel0 : Hid (Below (w.heap.size + 1) W wr) := m1
        clear hd0 hnx hne m1 m2 hl0 HX HU HM
        change Calls Tryz.prog 90 #[.string (bs l0)] wr (fun e w' => ∃ v, e = .returned (.tuple #[v, .bool (!(numsOf l0).isEmpty)]) ∧ Hid (IS wr.heap.size w' v (numsOf l0)) ∧ Hid (Below wr.heap.size wr w')) at HNum
        generalize unl (ls.drop k) = sk at *
        generalize numsOf l0 = hd at *
        by_cases h3 : hd.length = 3
        · have hok : (!hd.isEmpty) = true := by cases hd with
            | nil => cases h3
            | cons a b => rfl
          have HNumT : Hid (Calls Tryz.prog 90 #[.string (bs l0)] wr (fun e w' => ∃ g cap, e = .returned (.tuple #[.slice (some ⟨g, 0, none⟩) 3 cap, .bool true]) ∧ (wr.heap.size ≤ g ∧ g < w'.heap.size ∧ w'.cell? ⟨g, 0, none⟩ = some (.int .i64 (hd.getD 0 0)) ∧ w'.cell? ⟨g, 1, none⟩ = some (.int .i64 (hd.getD 1 0)) ∧ w'.cell? ⟨g, 2, none⟩ = some (.int .i64 (hd.getD 2 0))) ∧ Hid (Below wr.heap.size wr w'))) := by
            refine HNum.mono ?_
            rintro e w' ⟨v, rfl, hI, hb⟩
            rw [hok]
            obtain ⟨a, cap, rfl, h | ⟨g, rfl, h1, h2, h4⟩⟩ := hI.out.at
            · rw [h] at h3; cases h3
            · rw [h3]
              have hget : ∀ i, i < 3 → hd[i]? = some (hd.getD i 0) := fun i hi => by simp [show i < hd.length by omega]
              exact ⟨g, cap, rfl, ⟨h1, h2, h4 0 _ (hget 0 (by omega)), h4 1 _ (hget 1 (by omega)), h4 2 _ (hget 2 (by omega))⟩, hb⟩
          have HH3 : Hid (hd.length = 3) := h3
          clear HNum hok h3
          generalize hx0 : hd.getD 0 0 = x0 at *
          generalize hx1 : hd.getD 1 0 = x1 at *
          generalize hx2 : hd.getD 2 0 = x2 at *
          have HX0 : Hid (hd.getD 0 0 = x0) := hx0
          have HX1 : Hid (hd.getD 1 0 = x1) := hx1
          clear hx0 hx1 hx2
          by_cases hin : 1 ≤ x2 ∧ x2 ≤ 2000
          · have HIn : Hid (∀ wi, Calls Tryz.prog 48 #[.int .i64 x2, .int .i64 1, .int .i64 2000] wi fun e w' => e = .returned (.bool true) ∧ w' = wi) := fun wi => by
              have := rIn x2 1 2000 wi
              rw [show fromB x2 1 2000 = true by simp [fromB, hin]] at this
              exact this
            obtain ⟨mm, rfl⟩ : ∃ mm : Nat, x2 = mm := ⟨x2.toNat, by omega⟩
            have HP : Hid (procL sk = (takeL mm (unl (ls.drop (k + 1)))).map fun r => (mkPc hd r.1, r.2)) := by
              have := HLines.out ⟨HH3.out, hin.1, hin.2⟩
              rw [Int.toNat_natCast] at this
              exact this
            clear HHead HLines
            by_cases hfew : m - (k + 1) < mm
            · have HErr : Hid (parseErr s.data.toList = 1) := HNo.out (by rw [HP.out, HFew.out mm hfew]; rfl)
              have hgt : (mm : Int) > (m : Int) - 1 - (k : Int) := by omega
              clear HNo HYes HFew HP
              go_wp2_with (first
                | (go_at_call 90; refine HNumT.out.mono ?_; rintro e w1 ⟨g, gc, rfl, ⟨hg0, hg1, g0, g1, g2⟩, HB1⟩)
                | (go_at_call 48; refine (HIn.out _).mono ?_; rintro e w9 ⟨rfl, h9⟩; rw [h9]; clear h9))
              go_ret2
              exact ParsePost.no HErr.out (by decide) (below_step HBwr.out HB1.out)
            · have hgt : ¬ (mm : Int) > (m : Int) - 1 - (k : Int) := by omega
              clear HFew
              go_upto_region 12 with (first
                | (go_at_call 90; refine HNumT.out.mono ?_; rintro e w1 ⟨g, gc, rfl, ⟨hg0, hg1, g0, g1, g2⟩, HB1⟩)
                | (go_at_call 48; refine (HIn.out _).mono ?_; rintro e w9 ⟨rfl, h9⟩; rw [h9]; clear h9))
              have z0 := World.new_ne w1 ⟨g, 0, none⟩ g0
              have z1 := World.new_ne w1 ⟨g, 1, none⟩ g1
              clear HIn HNumT
              go_region_held3 (fun w' => w'.cell? ⟨g, 0, none⟩ = some (.int .i64 x0) ∧ w'.cell? ⟨g, 1, none⟩ = some (.int .i64 x1)) (go_keep) (fail)
              have g2' : (w1.alloc (.cells #[.int .i64 x0, .int .i64 x1, .slice none 0 0] 38)).cell? ⟨g, 2, none⟩ = some (.int .i64 mm) := by rw [(below_alloc w1 _).cell (p := ⟨g, 2, none⟩) hg1]; exact g2
              go_upto_region 14 with (fail)
              have HInit : Hid (Below w1.heap.size w1 (w1.alloc (.cells #[.int .i64 x0, .int .i64 x1, .slice none 0 0] 38)).drew ∧ (w1.alloc (.cells #[.int .i64 x0, .int .i64 x1, .slice none 0 0] 38)).drew.heap[w1.heap.size]? = some (.cells #[.int .i64 x0, .int .i64 x1, .slice none 0 0] 38 (0, 0)) ∧ CodeRow (w1.heap.size + 1) (w1.alloc (.cells #[.int .i64 x0, .int .i64 x1, .slice none 0 0] 38)).drew (.slice none 0 0) []) := by
                have hb := (below_alloc w1 (.cells #[.int .i64 x0, .int .i64 x1, .slice none 0 0] 38))
                exact ⟨hb.drew, heap_alloc_new w1 _, CodeRow.nil _ _⟩
              have hsz2 : (w1.alloc (.cells #[.int .i64 x0, .int .i64 x1, .slice none 0 0] 38)).drew.heap.size = w1.heap.size + 1 := by show (w1.alloc _).heap.size = _; simp
              generalize (w1.alloc (.cells #[.int .i64 x0, .int .i64 x1, .slice none 0 0] 38)).drew = W2 at *
              have HB1w : Hid (Below w.heap.size w w1) := below_step HBwr.out HB1.out
              have HBW1 : Hid (Below (w.heap.size + 1) W w1) := HBel0.out.trans (HB1.out.mono hwr)
              have HRow1 : Hid (ProcRow (w.heap.size + 1) w1 u5 ps) := HRow0.out.stay (Keeps.of HB1.out) (Keeps.of HB1.out) (Keeps.of HB1.out)
              have hw1 : w.heap.size + 1 ≤ w1.heap.size := Nat.le_trans hwr HB1.out.size
              clear g0 g1 g2 g2' z0 z1 hg0 hg1 HRow0 HBel0 HB1 HBwr hwr hwlt q0
              go_loopw [6, 76] (fun iv i wr => ∃ (t : Nat) (items : List (List Int × Value)) (cv : Value), t ≤ mm ∧ iv = .int .i64 (k + t : Nat) ∧ i = .int .i64 t ∧ (Hid (items.length = t) ∧ Hid (takeL mm (unl (ls.drop (k + 1))) = (takeL (mm - t) (unl (ls.drop (k + 1 + t)))).map fun r => (items.map (·.1) ++ r.1, r.2))) ∧
                Hid (Below w1.heap.size w1 wr ∧ wr.heap[w1.heap.size]? = some (.cells #[.int .i64 x0, .int .i64 x1, cv] 38 (0, 0)) ∧ CodeRow (w1.heap.size + 1) wr cv items)) (fun _ i _ => mm - (intOf i).toNat)
              case atStart => exact ⟨0, [], _, by omega, rfl, rfl, ⟨rfl, by show _ = _; simp⟩, HInit⟩
              case round =>
                clear HInit hsz2
                obtain ⟨t, items, cv, ht0, rfl, rfl, ⟨HIk, HTk⟩, HM⟩ := hrel
                obtain ⟨m1, m3, m5⟩ := HM.out
                have hszr := m1.size
                by_cases ht : t < mm
                · have hti : (t : Int) < (mm : Int) := by omega
                  have hkt : k + t + 1 < m := by omega
                  obtain ⟨l0, hl0⟩ : ∃ l0, ls[k + t + 1]? = some l0 := ⟨ls[k + t + 1]'(by rw [HLs.out]; exact hkt), by simp [HLs.out, hkt]⟩
                  have q0 : wr.cell? ⟨w.heap.size, k + t + 1, none⟩ = some (.string (bs l0)) := by rw [(HBW1.out.trans (m1.mono hw1)).cell (p := ⟨w.heap.size, k + t + 1, none⟩) (by show w.heap.size < w.heap.size + 1; omega)]; exact HCell.out _ _ (HAt.out _ l0 hl0)
                  have hwlt : w.heap.size < wr.heap.size := by omega
                  have HNum := rNumbers N (bs l0) (HSm.out _ _ (HAt.out _ l0 hl0)) wr (by omega) (HE.out.below ((below_step HB1w.out m1).mono hN))
                  have HSz0 : Hid ((numsOf l0).length ≤ 1000000) := by
                    show _ ≤ _
                    have h1 := numsOf_few l0
                    have h2 : (bs l0).size ≤ 100000 := HSm.out _ _ (HAt.out _ l0 hl0)
                    have h3 : (bs l0).size = l0.length := by simp [bs, ByteArray.size]
                    omega
                  have hd0 : unl (ls.drop (k + 1 + t)) = unl (l0 :: ls.drop (k + 1 + (t + 1))) := by
                    have hkl : k + 1 + t < ls.length := by rw [HLs.out]; omega
                    rw [List.drop_eq_getElem_cons hkl]
                    have : ls[k + 1 + t] = l0 := by
                      have e : k + t + 1 = k + 1 + t := by omega
                      rw [e] at hl0
                      simpa [hkl] using hl0
                    rw [this, show k + 1 + t + 1 = k + 1 + (t + 1) by omega]
                  have hnx : nextL (unl (ls.drop (k + 1 + t))) = (numsOf l0, unl (ls.drop (k + 1 + (t + 1)))) := by rw [hd0]; exact nextL_unl (HLf.out l0 (List.mem_of_getElem? hl0))
                  have HBadL : Hid ((numsOf l0).length < 4 → parseErr s.data.toList = 1) := fun h => HNo.out (by
                    obtain ⟨j, hj⟩ : ∃ j, mm - t = j + 1 := ⟨mm - t - 1, by omega⟩
                    rw [HP.out, HTk.out, hj, takeL_bad (by rw [hnx]; exact h)]; rfl)
                  have HGoodL : Hid (∀ av : Value, ¬ (numsOf l0).length < 4 → Hid ((items ++ [(numsOf l0, av)]).length = t + 1) ∧ Hid (takeL mm (unl (ls.drop (k + 1))) = (takeL (mm - (t + 1)) (unl (ls.drop (k + 1 + (t + 1))))).map fun r => ((items ++ [(numsOf l0, av)]).map (·.1) ++ r.1, r.2))) := fun av h => by
                    refine ⟨by show _ = _; rw [List.length_append, HIk.out]; rfl, ?_⟩
                    show _ = _
                    obtain ⟨j, hj⟩ : ∃ j, mm - t = j + 1 := ⟨mm - t - 1, by omega⟩
                    rw [HTk.out, hj, takeL_good (by rw [hnx]; exact h), show mm - (t + 1) = j by omega, Option.map_map, hnx]
                    congr 1
                    funext r
                    simp
                  change Calls Tryz.prog 90 #[.string (bs l0)] wr (fun e w' => ∃ v, e = .returned (.tuple #[v, .bool (!(numsOf l0).isEmpty)]) ∧ Hid (IS wr.heap.size w' v (numsOf l0)) ∧ Hid (Below wr.heap.size wr w')) at HNum
                  have HMem : Hid (∀ w3, Below wr.heap.size wr w3 → Below w1.heap.size w1 w3 ∧ w3.heap[w1.heap.size]? = some (.cells #[.int .i64 x0, .int .i64 x1, cv] 38 (0, 0)) ∧ CodeRow (w1.heap.size + 1) w3 cv items) := fun w3 hb => by
                    obtain ⟨m1, m3, m5⟩ := HM.out
                    exact ⟨below_step m1 hb, (hb.block _ (Array.getElem?_eq_some_iff.1 m3).1).trans m3, m5.stay (Keeps.of hb) (Keeps.of hb)⟩
                  have hgrow1 : w1.heap.size < wr.heap.size := (Array.getElem?_eq_some_iff.1 m3).1
                  clear hd0 hnx m1 m3 m5 hl0
                  generalize numsOf l0 = l at *
                  by_cases h4 : l.length < 4
                  · have HErr : Hid (parseErr s.data.toList = 1) := HBadL.out h4
                    have HNumF : Hid (Calls Tryz.prog 90 #[.string (bs l0)] wr (fun e w' => ∃ a c b, e = .returned (.tuple #[.slice a l.length c, .bool b]) ∧ Hid (Below wr.heap.size wr w'))) := by
                      refine HNum.mono ?_
                      rintro e w' ⟨v, rfl, hI, hb⟩
                      obtain ⟨a, cap, rfl⟩ := hI.out.shape
                      exact ⟨a, cap, _, rfl, hb⟩
                    have h4i : (l.length : Int) < 4 := by omega
                    clear HNum HNo HYes HP HBadL HGoodL h4
                    go_wp2_with (first
                      | (go_at_call 90; refine HNumF.out.mono ?_; rintro e w3 ⟨a1, c1, b1, rfl, HB3⟩; cases b1))
                    all_goals
                      go_ret2
                      exact ParsePost.no HErr.out (by decide) (below_step HB1w.out (HMem.out _ HB3.out).1)
                  · have hok : (!l.isEmpty) = true := by cases l with
                      | nil => exact absurd (by simp) h4
                      | cons a b => rfl
                    have h4i : ¬ (l.length : Int) < 4 := by omega
                    have HNumT : Hid (Calls Tryz.prog 90 #[.string (bs l0)] wr (fun e w' => ∃ a c, e = .returned (.tuple #[.slice a l.length c, .bool true]) ∧ Hid (IS wr.heap.size w' (.slice a l.length c) l) ∧ Hid (Below wr.heap.size wr w'))) := by
                      refine HNum.mono ?_
                      rintro e w' ⟨v, rfl, hI, hb⟩
                      rw [hok]
                      obtain ⟨a, cap, rfl⟩ := hI.out.shape
                      exact ⟨a, cap, rfl, hI, hb⟩
                    clear HNum hok HBadL HNo
                    go_upto_region 19 with (first
                      | (go_at_call 90; refine HNumT.out.mono ?_; rintro e w3 ⟨la, lc, rfl, HI3, HB3⟩))
                    have hw3 := HB3.out.size
                    obtain ⟨x1', x2', x4'⟩ := HMem.out w3 HB3.out
                    obtain ⟨g3, lcap, av, elv, hg3, ⟨gcur, hgb⟩, hlc, hsl, harg⟩ := HI3.out.args (by omega) HSz0.out
                    cases elv
                    have hget : ∀ i, i < 4 → l[i]? = some (l.getD i 0) := fun i hi => by simp [show i < l.length by omega]
                    have HG3 : Hid (∀ wi : World, wi.heap[g3]? = w3.heap[g3]? → wi.cell? ⟨g3, 0, none⟩ = some (.int .i64 (l.getD 0 0)) ∧ wi.cell? ⟨g3, 1, none⟩ = some (.int .i64 (l.getD 1 0)) ∧ wi.cell? ⟨g3, 2, none⟩ = some (.int .i64 (l.getD 2 0)) ∧ wi.cell? ⟨g3, 3, none⟩ = some (.int .i64 (l.getD 3 0))) := fun wi hh => by
                      have e : ∀ i, wi.cell? ⟨g3, i, none⟩ = w3.cell? ⟨g3, i, none⟩ := fun i => World.cell?_of_block (w := w3) (a := ⟨g3, i, none⟩) hh
                      exact ⟨by rw [e]; exact hlc 0 _ (hget 0 (by omega)), by rw [e]; exact hlc 1 _ (hget 1 (by omega)), by rw [e]; exact hlc 2 _ (hget 2 (by omega)), by rw [e]; exact hlc 3 _ (hget 3 (by omega))⟩
                    have HG3l : Hid (g3 < w3.heap.size) := (Array.getElem?_eq_some_iff.1 hgb).1
                    have HgQ : Hid (¬ g3 = w1.heap.size) := (by show ¬ g3 = w1.heap.size; omega)
                    have HAV : Hid (∃ b n c, av = .slice b n c) := by obtain ⟨a, c, e, _⟩ := harg; exact ⟨a, _, c, e⟩
                    have HArg : Hid (ArgsAt w3 av (l.length - 4) (fun j => l.getD (j + 4) 0)) := harg
                    have HRow3 : Hid (CodeRow (w1.heap.size + 1) w3 cv items) := x4'
                    have HIl : Hid (items.length ≤ 100000) := (by show items.length ≤ 100000; rw [HIk.out]; omega)
                    have HC3 : Hid (w1.heap.size + 1 ≤ w3.heap.size) := (by show w1.heap.size + 1 ≤ w3.heap.size; omega)
                    have HStep : Hid (∀ (cs : Array Value) (w2 : World), (w3.drew.alloc (.cells cs 84)).grownBy w2 cv.ownBlock → Below w1.heap.size w1 w2 ∧ w2.heap[w1.heap.size]? = some (.cells #[.int .i64 x0, .int .i64 x1, cv] 38 (0, 0)) ∧ w2.heap[g3]? = w3.heap[g3]? ∧ Keeps 3 w3 w2) := fun cs w2 hgr => by
                      obtain ⟨a1, a3, a5, a6⟩ := rproc_step x1' (Nat.le_refl _) x2' hgb x4' (by omega) hgr
                      exact ⟨a1, a3, a5.trans hgb.symm, a6⟩
                    have HNxt : Hid (Hid ((items ++ [(l, av)]).length = t + 1) ∧ Hid (takeL mm (unl (ls.drop (k + 1))) = (takeL (mm - (t + 1)) (unl (ls.drop (k + 1 + (t + 1))))).map fun r => ((items ++ [(l, av)]).map (·.1) ++ r.1, r.2))) := HGoodL.out av h4
                    obtain ⟨ab, an, ac, rfl⟩ := HAV.out
                    have qca : ∀ o : Obj, (w3.alloc o).cell? ⟨w1.heap.size, 2, none⟩ = some cv := fun o => by rw [(below_alloc w3 o).cell (p := ⟨w1.heap.size, 2, none⟩) (by show w1.heap.size < w3.heap.size; omega)]; unfold World.cell?; rw [x2']; rfl
                    have qc : w3.cell? ⟨w1.heap.size, 2, none⟩ = some cv := by unfold World.cell?; rw [x2']; rfl
                    have hcvs : ∃ ca cc, cv = .slice ca items.length cc := own_shape x4'.1
                    have hL4 : (4 : Int) ≤ (l.length : Int) := by omega
                    have hL0 : 0 < l.length := by omega
                    have hL1 : 1 < l.length := by omega
                    have hL2 : 2 < l.length := by omega
                    have hL3 : 3 < l.length := by omega
                    have hM1 : (1 : Int) < (l.length : Int) := by omega
                    have hM2 : (2 : Int) < (l.length : Int) := by omega
                    have hM3 : (3 : Int) < (l.length : Int) := by omega
                    obtain ⟨L, hLe⟩ : ∃ L, l.length = L := ⟨_, rfl⟩
                    rw [hLe] at hsl h4i hL4 hL0 hL1 hL2 hL3 hM1 hM2 hM3 ⊢
                    clear x1' x2' x4' harg hlc hget HGoodL h4 HI3 hgb hg3 hLe hcvs
                    refine held_begin (n := 21) (l0 := #[false, false, false, false, false, false, false, false, false, false, false, false, false, false, false, false, false, false, false, false, false]) (S := fun w' => w'.cell? ⟨g3, 0, none⟩ = some (.int .i64 (l.getD 0 0)) ∧ w'.cell? ⟨g3, 1, none⟩ = some (.int .i64 (l.getD 1 0)) ∧ w'.cell? ⟨g3, 2, none⟩ = some (.int .i64 (l.getD 2 0)) ∧ w'.cell? ⟨g3, 3, none⟩ = some (.int .i64 (l.getD 3 0))) (by kernel_rfl) (by kernel_rfl) (by kernel_rfl) (HG3.out _ rfl) (fun hHeld => ?_)
                    refine take_yes (i := 0) (d := 95) (l2 := #[true, false, false, false, false, false, false, false, false, false, false, false, false, false, false, false, false, false, false, false, false]) (v := ?v0) rfl rfl (by kernel_rfl) (by kernel_rfl) (by kernel_rfl) (by kernel_rfl) (fun _ _ _ h => h) (by rfl) ?hy0 (by assumption) ?_
                    case hy0 => (intro wS hSw; (try dsimp only at hSw); (go_simp <;> with_reducible rfl))
                    simp only [Act.put, List.setIfInBounds_toArray, List.set_cons_succ, List.set_cons_zero]
                    refine take_yes (i := 2) (d := 97) (l2 := #[true, false, true, false, false, false, false, false, false, false, false, false, false, false, false, false, false, false, false, false, false]) (v := ?v2) rfl rfl (by kernel_rfl) (by kernel_rfl) (by kernel_rfl) (by kernel_rfl) (fun _ _ _ h => h) (by rfl) ?hy2 (by assumption) ?_
                    case hy2 => (intro wS hSw; (try dsimp only at hSw); (go_simp <;> with_reducible rfl))
                    simp only [Act.put, List.setIfInBounds_toArray, List.set_cons_succ, List.set_cons_zero]
                    refine take_yes (i := 3) (d := 98) (l2 := #[true, false, true, true, false, false, false, false, false, false, false, false, false, false, false, false, false, false, false, false, false]) (v := ?v3) rfl rfl (by kernel_rfl) (by kernel_rfl) (by kernel_rfl) (by kernel_rfl) (fun _ _ _ h => h) (by rfl) ?hy3 (by assumption) ?_
                    case hy3 => (intro wS hSw; (try dsimp only at hSw); (go_simp <;> with_reducible rfl))
                    simp only [Act.put, List.setIfInBounds_toArray, List.set_cons_succ, List.set_cons_zero]
                    refine take_yes (i := 4) (d := 99) (l2 := #[true, false, true, true, true, false, false, false, false, false, false, false, false, false, false, false, false, false, false, false, false]) (v := ?v4) rfl rfl (by kernel_rfl) (by kernel_rfl) (by kernel_rfl) (by kernel_rfl) (fun _ _ _ h => h) (by rfl) ?hy4 (by assumption) ?_
                    case hy4 => (intro wS hSw; (try dsimp only at hSw); (go_simp <;> with_reducible rfl))
                    simp only [Act.put, List.setIfInBounds_toArray, List.set_cons_succ, List.set_cons_zero]
                    refine take_yes (i := 5) (d := 100) (l2 := #[true, false, true, true, true, true, false, false, false, false, false, false, false, false, false, false, false, false, false, false, false]) (v := ?v5) rfl rfl (by kernel_rfl) (by kernel_rfl) (by kernel_rfl) (by kernel_rfl) (fun _ _ _ h => h) (by rfl) ?hy5 (by assumption) ?_
                    case hy5 => (intro wS hSw; (try dsimp only at hSw); (go_simp <;> with_reducible rfl))
                    simp only [Act.put, List.setIfInBounds_toArray, List.set_cons_succ, List.set_cons_zero]
                    refine take_yes (i := 6) (d := 101) (l2 := #[true, false, true, true, true, true, true, false, false, false, false, false, false, false, false, false, false, false, false, false, false]) (v := ?v6) rfl rfl (by kernel_rfl) (by kernel_rfl) (by kernel_rfl) (by kernel_rfl) (fun _ _ _ h => h) (by rfl) ?hy6 (by assumption) ?_
                    case hy6 => (intro wS hSw; (try dsimp only at hSw); (go_simp <;> with_reducible rfl))
                    simp only [Act.put, List.setIfInBounds_toArray, List.set_cons_succ, List.set_cons_zero]
                    refine take_yes (i := 7) (d := 102) (l2 := #[true, false, true, true, true, true, true, true, false, false, false, false, false, false, false, false, false, false, false, false, false]) (v := ?v7) rfl rfl (by kernel_rfl) (by kernel_rfl) (by kernel_rfl) (by kernel_rfl) (fun _ _ _ h => h) (by rfl) ?hy7 (by assumption) ?_
                    case hy7 => (intro wS hSw; (try dsimp only at hSw); (go_simp <;> with_reducible rfl))
                    simp only [Act.put, List.setIfInBounds_toArray, List.set_cons_succ, List.set_cons_zero]
                    refine take_yes (i := 8) (d := 103) (l2 := #[true, false, true, true, true, true, true, true, true, false, false, false, false, false, false, false, false, false, false, false, false]) (v := ?v8) rfl rfl (by kernel_rfl) (by kernel_rfl) (by kernel_rfl) (by kernel_rfl) (fun _ _ _ h => h) (by rfl) ?hy8 (by assumption) ?_
                    case hy8 => (intro wS hSw; (try dsimp only at hSw); (go_simp <;> with_reducible rfl))
                    simp only [Act.put, List.setIfInBounds_toArray, List.set_cons_succ, List.set_cons_zero]
                    refine take_yes (i := 9) (d := 104) (l2 := #[true, false, true, true, true, true, true, true, true, true, false, false, false, false, false, false, false, false, false, false, false]) (v := ?v9) rfl rfl (by kernel_rfl) (by kernel_rfl) (by kernel_rfl) (by kernel_rfl) (fun _ _ _ h => h) (by rfl) ?hy9 (by assumption) ?_
                    case hy9 => (intro wS hSw; (try dsimp only at hSw); (go_simp <;> with_reducible rfl))
                    simp only [Act.put, List.setIfInBounds_toArray, List.set_cons_succ, List.set_cons_zero]
                    refine take_yes (i := 10) (d := 105) (l2 := #[true, false, true, true, true, true, true, true, true, true, true, false, false, false, false, false, false, false, false, false, false]) (v := ?v10) rfl rfl (by kernel_rfl) (by kernel_rfl) (by kernel_rfl) (by kernel_rfl) (fun _ _ _ h => h) (by rfl) ?hy10 (by assumption) ?_
                    case hy10 => (intro wS hSw; (try dsimp only at hSw); (go_simp <;> with_reducible rfl))
                    simp only [Act.put, List.setIfInBounds_toArray, List.set_cons_succ, List.set_cons_zero]
                    refine take_yes (i := 11) (d := 106) (l2 := #[true, false, true, true, true, true, true, true, true, true, true, true, false, false, false, false, false, false, false, false, false]) (v := ?v11) rfl rfl (by kernel_rfl) (by kernel_rfl) (by kernel_rfl) (by kernel_rfl) (fun _ _ _ h => h) (by rfl) ?hy11 (by assumption) ?_
                    case hy11 => (intro wS hSw; (try dsimp only at hSw); (go_simp <;> with_reducible rfl))
                    simp only [Act.put, List.setIfInBounds_toArray, List.set_cons_succ, List.set_cons_zero]
                    refine take_yes (i := 12) (d := 107) (l2 := #[true, false, true, true, true, true, true, true, true, true, true, true, true, false, false, false, false, false, false, false, false]) (v := ?v12) rfl rfl (by kernel_rfl) (by kernel_rfl) (by kernel_rfl) (by kernel_rfl) (fun _ _ _ h => h) (by rfl) ?hy12 (by assumption) ?_
                    case hy12 => (intro wS hSw; (try dsimp only at hSw); (go_simp <;> with_reducible rfl))
                    simp only [Act.put, List.setIfInBounds_toArray, List.set_cons_succ, List.set_cons_zero]
                    refine take_yes (i := 13) (d := 108) (l2 := #[true, false, true, true, true, true, true, true, true, true, true, true, true, true, false, false, false, false, false, false, false]) (v := ?v13) rfl rfl (by kernel_rfl) (by kernel_rfl) (by kernel_rfl) (by kernel_rfl) (fun _ _ _ h => h) (by rfl) ?hy13 (by assumption) ?_
                    case hy13 => (intro wS hSw; (try dsimp only at hSw); (go_simp <;> with_reducible rfl))
                    simp only [Act.put, List.setIfInBounds_toArray, List.set_cons_succ, List.set_cons_zero]
                    refine take_yes (i := 14) (d := 109) (l2 := #[true, false, true, true, true, true, true, true, true, true, true, true, true, true, true, false, false, false, false, false, false]) (v := ?v14) rfl rfl (by kernel_rfl) (by kernel_rfl) (by kernel_rfl) (by kernel_rfl) (fun _ _ _ h => h) (by rfl) ?hy14 (by assumption) ?_
                    case hy14 => (intro wS hSw; (try dsimp only at hSw); (go_simp <;> with_reducible rfl))
                    simp only [Act.put, List.setIfInBounds_toArray, List.set_cons_succ, List.set_cons_zero]
                    refine take_yes (i := 15) (d := 110) (l2 := #[true, false, true, true, true, true, true, true, true, true, true, true, true, true, true, true, false, false, false, false, false]) (v := ?v15) rfl rfl (by kernel_rfl) (by kernel_rfl) (by kernel_rfl) (by kernel_rfl) (fun _ _ _ h => h) (by rfl) ?hy15 (by assumption) ?_
                    case hy15 => (intro wS hSw; (try dsimp only at hSw); (go_simp <;> with_reducible rfl))
                    simp only [Act.put, List.setIfInBounds_toArray, List.set_cons_succ, List.set_cons_zero]
                    refine take_yes (i := 16) (d := 111) (l2 := #[true, false, true, true, true, true, true, true, true, true, true, true, true, true, true, true, true, false, false, false, false]) (v := ?v16) rfl rfl (by kernel_rfl) (by kernel_rfl) (by kernel_rfl) (by kernel_rfl) (fun _ _ _ h => h) (by rfl) ?hy16 (by assumption) ?_
                    case hy16 => (intro wS hSw; (try dsimp only at hSw); (go_simp <;> with_reducible rfl))
                    simp only [Act.put, List.setIfInBounds_toArray, List.set_cons_succ, List.set_cons_zero]
                    refine two_up (i := 1) (j := 17) (d := 96) (e := 112) (l1 := #[true, true, true, true, true, true, true, true, true, true, true, true, true, true, true, true, true, false, false, false, false]) (l2 := #[true, false, true, true, true, true, true, true, true, true, true, true, true, true, true, true, true, true, false, false, false]) rfl rfl rfl rfl (by kernel_rfl) (by kernel_rfl) (by kernel_rfl) (by rfl) (by rfl) (fun K hK => ?_) (fun K hK => ?_)
                    · go_simp
                      refine hK.out _ _ (HG3.out _ rfl) (fun hHeld1 => ?_)
                      clear hK K hHeld
                      simp only [Act.put, List.setIfInBounds_toArray, List.set_cons_succ, List.set_cons_zero]
                      refine one_up (i := 17) (d := 112) (l2 := #[true, true, true, true, true, true, true, true, true, true, true, true, true, true, true, true, true, true, false, false, false]) rfl rfl (by kernel_rfl) (by kernel_rfl) (by rfl) (fun K hK => ?_)
                      go_simp
                      refine hK.out _ _ (HG3.out _ (heap_lt_alloc HG3l.out)) (fun hHeld2 => ?_)
                      clear hK K hHeld1
                      simp only [Act.put, List.setIfInBounds_toArray, List.set_cons_succ, List.set_cons_zero]
                      refine one_up (i := 18) (d := 113) (l2 := #[true, true, true, true, true, true, true, true, true, true, true, true, true, true, true, true, true, true, true, false, false]) rfl rfl (by kernel_rfl) (by kernel_rfl) (by rfl) (fun K hK => ?_)
                      refine wp_append_ins w3.drew _ _ rfl (w1.heap.size + 1) cv items _ _ _ _ _ ⟨_, _, _, rfl⟩ rfl HRow3.out _ rfl rfl HIl.out HC3.out (fun ad cap w2 hown2 hgr2 => ?_)
                      obtain ⟨f1, f3, f5, f6⟩ := HStep.out _ _ hgr2
                      refine hK.out _ _ (HG3.out _ f5) (fun hHeld3 => ?_)
                      clear hK K hHeld2
                      simp only [Act.put, List.setIfInBounds_toArray, List.set_cons_succ, List.set_cons_zero]
                      have q2 : w2.cell? ⟨w1.heap.size, 2, none⟩ = some cv := by unfold World.cell?; rw [f3]; rfl
                      have q3 : w2.frozen? ⟨w1.heap.size, 2, none⟩ = false := by unfold World.frozen?; rw [f3]; rfl
                      have HFin : Hid (Below w1.heap.size w1 (w2.setCell ⟨w1.heap.size, 2, none⟩ (.slice ad (items.length + 1) cap)) ∧ (w2.setCell ⟨w1.heap.size, 2, none⟩ (.slice ad (items.length + 1) cap)).heap[w1.heap.size]? = some (.cells #[.int .i64 x0, .int .i64 x1, (.slice ad (items.length + 1) cap)] 38 (0, 0)) ∧ CodeRow (w1.heap.size + 1) (w2.setCell ⟨w1.heap.size, 2, none⟩ (.slice ad (items.length + 1) cap)) (.slice ad (items.length + 1) cap) (items ++ [(l, .slice ab an ac)])) := rproc_store f1 f3 (Nat.le_refl _) hown2 (fun x hx => (HRow3.out.2 x hx).stay f6) (HArg.out.stay f6)
                      have hset : (w2.setCell ⟨w1.heap.size, 2, none⟩ (.slice ad (items.length + 1) cap)).heap[g3]? = w3.heap[g3]? := by rw [Below.heap_setCell w2 ⟨w1.heap.size, 2, none⟩ _ g3 (HgQ.out), f5]
                      clear hown2 hgr2 f1 f3 f6
                      refine take_yes (i := 19) (d := 114) (l2 := #[true, true, true, true, true, true, true, true, true, true, true, true, true, true, true, true, true, true, true, true, false]) (v := ?v19) rfl rfl (by kernel_rfl) (by kernel_rfl) (by kernel_rfl) (by kernel_rfl) (fun _ _ _ h => h) (by rfl) ?hy19 (by assumption) ?_
                      case hy19 => (intro wS hSw; (try dsimp only at hSw); (go_simp <;> with_reducible rfl))
                      simp only [Act.put, List.setIfInBounds_toArray, List.set_cons_succ, List.set_cons_zero]
                      refine one_up_none (i := 20) (l2 := #[true, true, true, true, true, true, true, true, true, true, true, true, true, true, true, true, true, true, true, true, true]) rfl rfl (by kernel_rfl) (by kernel_rfl) (by rfl) (fun K hK => ?_)
                      go_simp
                      refine hK.out _ (HG3.out _ hset) (fun hHeld4 => ?_)
                      clear hK K hHeld3 hHeld4
                      refine wpAnyH_done (by kernel_rfl) ?_ _
                      go_wp2_with fail
                      go_roundw
                      case rel => exact ⟨t + 1, items ++ [(l, .slice ab an ac)], _, by omega, by go_num, by go_num, HNxt.out, HFin⟩
                      case measure => simp [intOf]; omega
                    · go_simp
                      refine hK.out _ _ (HG3.out _ (heap_lt_alloc2 HG3l.out)) (fun hHeld1 => ?_)
                      clear hK K hHeld
                      simp only [Act.put, List.setIfInBounds_toArray, List.set_cons_succ, List.set_cons_zero]
                      refine one_up (i := 1) (d := 96) (l2 := #[true, true, true, true, true, true, true, true, true, true, true, true, true, true, true, true, true, true, false, false, false]) rfl rfl (by kernel_rfl) (by kernel_rfl) (by rfl) (fun K hK => ?_)
                      go_simp
                      refine hK.out _ _ (HG3.out _ (heap_lt_alloc2 HG3l.out)) (fun hHeld2 => ?_)
                      clear hK K hHeld1
                      simp only [Act.put, List.setIfInBounds_toArray, List.set_cons_succ, List.set_cons_zero]
                      change wpAnyH _ _ _ _ _ _ _ _ (w3.drew.alloc _)
                      refine one_up (i := 18) (d := 113) (l2 := #[true, true, true, true, true, true, true, true, true, true, true, true, true, true, true, true, true, true, true, false, false]) rfl rfl (by kernel_rfl) (by kernel_rfl) (by rfl) (fun K hK => ?_)
                      refine wp_append_ins w3.drew _ _ rfl (w1.heap.size + 1) cv items _ _ _ _ _ ⟨_, _, _, rfl⟩ rfl HRow3.out _ rfl rfl HIl.out HC3.out (fun ad cap w2 hown2 hgr2 => ?_)
                      obtain ⟨f1, f3, f5, f6⟩ := HStep.out _ _ hgr2
                      refine hK.out _ _ (HG3.out _ f5) (fun hHeld3 => ?_)
                      clear hK K hHeld2
                      simp only [Act.put, List.setIfInBounds_toArray, List.set_cons_succ, List.set_cons_zero]
                      have q2 : w2.cell? ⟨w1.heap.size, 2, none⟩ = some cv := by unfold World.cell?; rw [f3]; rfl
                      have q3 : w2.frozen? ⟨w1.heap.size, 2, none⟩ = false := by unfold World.frozen?; rw [f3]; rfl
                      have HFin : Hid (Below w1.heap.size w1 (w2.setCell ⟨w1.heap.size, 2, none⟩ (.slice ad (items.length + 1) cap)) ∧ (w2.setCell ⟨w1.heap.size, 2, none⟩ (.slice ad (items.length + 1) cap)).heap[w1.heap.size]? = some (.cells #[.int .i64 x0, .int .i64 x1, (.slice ad (items.length + 1) cap)] 38 (0, 0)) ∧ CodeRow (w1.heap.size + 1) (w2.setCell ⟨w1.heap.size, 2, none⟩ (.slice ad (items.length + 1) cap)) (.slice ad (items.length + 1) cap) (items ++ [(l, .slice ab an ac)])) := rproc_store f1 f3 (Nat.le_refl _) hown2 (fun x hx => (HRow3.out.2 x hx).stay f6) (HArg.out.stay f6)
                      have hset : (w2.setCell ⟨w1.heap.size, 2, none⟩ (.slice ad (items.length + 1) cap)).heap[g3]? = w3.heap[g3]? := by rw [Below.heap_setCell w2 ⟨w1.heap.size, 2, none⟩ _ g3 (HgQ.out), f5]
                      clear hown2 hgr2 f1 f3 f6
                      refine take_yes (i := 19) (d := 114) (l2 := #[true, true, true, true, true, true, true, true, true, true, true, true, true, true, true, true, true, true, true, true, false]) (v := ?v19) rfl rfl (by kernel_rfl) (by kernel_rfl) (by kernel_rfl) (by kernel_rfl) (fun _ _ _ h => h) (by rfl) ?hy19 (by assumption) ?_
                      case hy19 => (intro wS hSw; (try dsimp only at hSw); (go_simp <;> with_reducible rfl))
                      simp only [Act.put, List.setIfInBounds_toArray, List.set_cons_succ, List.set_cons_zero]
                      refine one_up_none (i := 20) (l2 := #[true, true, true, true, true, true, true, true, true, true, true, true, true, true, true, true, true, true, true, true, true]) rfl rfl (by kernel_rfl) (by kernel_rfl) (by rfl) (fun K hK => ?_)
                      go_simp
                      refine hK.out _ (HG3.out _ hset) (fun hHeld4 => ?_)
                      clear hK K hHeld3 hHeld4
                      refine wpAnyH_done (by kernel_rfl) ?_ _
                      go_wp2_with fail
                      go_roundw
                      case rel => exact ⟨t + 1, items ++ [(l, .slice ab an ac)], _, by omega, by go_num, by go_num, HNxt.out, HFin⟩
                      case measure => simp [intOf]; omega
                · obtain rfl : t = mm := by omega
                  have hnti : ¬ (t : Int) < (t : Int) := by omega
                  have HPm : Hid (procL sk = some (mkPc hd (items.map (·.1)), unl (ls.drop (k + 1 + t)))) := by
                    show _ = _
                    rw [HP.out, HTk.out, Nat.sub_self, takeL]
                    simp
                  obtain ⟨HY1, HY2⟩ := HYes.out _ HPm.out
                  obtain ⟨ca, cc, rfl⟩ : ∃ ca cc, cv = .slice ca items.length cc := own_shape m5.1
                  have HCH : Hid (CodeHeap wr (.slice ca items.length cc) items.length (fun k => insOf ((items.map (·.1)).getD k []))) := m5.heap (by rw [HIk.out]; omega)
                  have HRowr : Hid (ProcRow (w.heap.size + 1) wr u5 ps) := HRow1.out.stay (Keeps.of m1) (Keeps.of m1) (Keeps.of m1)
                  have HBr : Hid (Below (w.heap.size + 1) W wr) := HBW1.out.trans (m1.mono hw1)
                  have hWw : w.heap.size + 1 ≤ W.heap.size := by omega
                  have hpl : ps.length ≤ 100000 := by have := HPl.out; omega
                  have hwrr : w.heap.size + 1 ≤ wr.heap.size := by omega
                  have HStep : Hid (∀ (w2 : World) (v' : Value) (cs : Array Value), (wr.alloc (.cells cs 38)).grownBy w2 u5.ownBlock → w2.ownsRow (w.heap.size + 1) 38 3 v' (ps.length + 1) (flatPc ps ++ [.int .i64 x0, .int .i64 x1, .slice ca items.length cc]) → Below (w.heap.size + 1) W w2 ∧ ProcRow (w.heap.size + 1) w2 v' (ps ++ [(mkPc hd (items.map (·.1)), .slice ca items.length cc)])) := fun w2 v' cs h5 h6 => by
                    have e1 : (mkPc hd (items.map (·.1))).n = items.length := by simp [mkPc]
                    have e2 : (mkPc hd (items.map (·.1))).params = x0 := HX0.out
                    have e3 : (mkPc hd (items.map (·.1))).regs = x1 := HX1.out
                    refine rread_step HBr.out hWw HRowr.out (p := mkPc hd (items.map (·.1))) (by rw [e1]; exact HCH.out) (Nat.le_refl _) h5 ?_
                    rw [e2, e3]; exact h6
                  have j0 : wr.cell? ⟨w1.heap.size, 0, none⟩ = some (.int .i64 x0) := by unfold World.cell?; rw [m3]; rfl
                  have j1 : wr.cell? ⟨w1.heap.size, 1, none⟩ = some (.int .i64 x1) := by unfold World.cell?; rw [m3]; rfl
                  have j2 : wr.cell? ⟨w1.heap.size, 2, none⟩ = some (.slice ca items.length cc) := by unfold World.cell?; rw [m3]; rfl
                  have hgrow1 : w1.heap.size < wr.heap.size := (Array.getElem?_eq_some_iff.1 m3).1
                  have HNk : Hid (k + t + 1 ≤ m) := (by show k + t + 1 ≤ m; omega)
                  have HRl : Hid (readL s.data.toList.length s.data.toList = (readL u' (unl (ls.drop (k + t + 1)))).map fun l => (ps ++ [(mkPc hd (items.map (·.1)), Value.slice ca items.length cc)]).map (·.1) ++ l) := by
                    show _ = _
                    rw [HY1.out, show k + t + 1 = k + 1 + t by omega]
                    congr 1
                    funext l
                    simp
                  have HUl : Hid ((unl (ls.drop (k + t + 1))).length ≤ u') := by
                    show _ ≤ _
                    rw [show k + t + 1 = k + 1 + t by omega]
                    exact HY2.out
                  have HPl2 : Hid ((ps ++ [(mkPc hd (items.map (·.1)), Value.slice ca items.length cc)]).length ≤ k + t + 1) := by
                    show _ ≤ _
                    have := HPl.out
                    rw [List.length_append, List.length_singleton]; omega
                  clear m1 m3 m5 HM HTk HP HYes HNo HPm HY1 HY2
                  go_wp2_with (first
                    | (at_builtin; refine append_proc _ rfl _ _ rfl (w.heap.size + 1) u5 ps x0 x1 ca items.length cc rfl HRowr.out _ (by simp) rfl hpl hwrr ?_; intro v4 w4 hO4 hG4; have HF4 := HStep.out w4 v4 _ hG4 hO4; clear hO4 hG4))
                  have HF5 : Hid (Below (w.heap.size + 1) W w4 ∧ ProcRow (w.heap.size + 1) w4 v4 (ps ++ [(mkPc hd (items.map (·.1)), .slice ca items.length cc)])) := HF4
                  go_roundw
                  case rel => exact ⟨k + t + 1, ps ++ [(mkPc hd (items.map (·.1)), .slice ca items.length cc)], u', HNk.out, by go_num, ⟨HUl, HRl, HPl2⟩, HF5⟩
                  case measure => simp [intOf]; omega
          · have HIn : Hid (∀ wi, Calls Tryz.prog 48 #[.int .i64 x2, .int .i64 1, .int .i64 2000] wi fun e w' => e = .returned (.bool false) ∧ w' = wi) := fun wi => by
              have := rIn x2 1 2000 wi
              rw [show fromB x2 1 2000 = false by simp only [fromB, hin, decide_false]] at this
              exact this
            have HErr : Hid (parseErr s.data.toList = 1) := HNo.out (HHead.out fun h => hin h.2)
            clear HNo HYes HFew HHead HLines
            go_wp2_with (first
              | (go_at_call 90; refine HNumT.out.mono ?_; rintro e w1 ⟨g, gc, rfl, ⟨hg0, hg1, g0, g1, g2⟩, HB1⟩)
              | (go_at_call 48; refine (HIn.out _).mono ?_; rintro e w9 ⟨rfl, h9⟩; rw [h9]; clear h9))
            go_ret2
            exact ParsePost.no HErr.out (by decide) (below_step HBwr.out HB1.out)
        · have HErr : Hid (parseErr s.data.toList = 1) := HNo.out (HHead.out fun h => h3 h.1)
          have HNumF : Hid (Calls Tryz.prog 90 #[.string (bs l0)] wr (fun e w' => ∃ a c b, e = .returned (.tuple #[.slice a hd.length c, .bool b]) ∧ Hid (Below wr.heap.size wr w'))) := by
            refine HNum.mono ?_
            rintro e w' ⟨v, rfl, hI, hb⟩
            obtain ⟨a, cap, rfl⟩ := hI.out.shape
            exact ⟨a, cap, _, rfl, hb⟩
          have h3b : ((hd.length : Int) != 3) = true := by simp; omega
          clear HNum HNo HYes HFew HHead HLines h3
          go_wp2_with (first
            | (go_at_call 90; refine HNumF.out.mono ?_; rintro e w1 ⟨a1, c1, b1, rfl, HB1⟩; cases b1))
          all_goals
            go_ret2
            exact ParsePost.no HErr.out (by decide) (below_step HBwr.out HB1.out)
      · obtain rfl : k = m := by omega
        have HR : Hid (readL s.data.toList.length s.data.toList = some (ps.map (·.1))) := by
          show _ = _
          have : ls.drop k = [] := List.drop_eq_nil_iff.2 (by rw [HLs.out]; exact Nat.le_refl _)
          rw [HX.out, this]
          cases u <;> simp [readL, unl]
        have hpp := m2.procs (by have := HPl.out; omega)
        rw [show ps.length = (ps.map (·.1)).length by simp] at hpp
        have HErr : Hid (parseErr s.data.toList = codeErr (ps.map (·.1)).length (nthP (ps.map (·.1)))) := by show _ = _; rw [HPE.out, HR.out]
        have HCk : Hid (Calls Tryz.prog 15 #[u5] wr fun e w' => e = .returned (.int .i64 (codeErr (ps.map (·.1)).length (nthP (ps.map (·.1))))) ∧ Below wr.heap.size wr w') := refCheckCode wr.heap.size u5 _ _ wr (Nat.le_refl _) hpp (read_fit HR.out)
        have HPP : Hid (ProcsAt wr.heap.size wr u5 (ps.map (·.1)).length (nthP (ps.map (·.1)))) := hpp
        clear hpp m1 m2 HX HU HM HPE
        generalize ps.map (·.1) = L at *
        by_cases hc : codeErr L.length (nthP L) = 0
        · have HZ : Hid (codeErr L.length (nthP L) = 0) := hc
          rw [hc] at HCk
          clear hc
          go_wp2_with (first
            | (go_at_call 15; refine HCk.out.mono ?_; rintro e w2 ⟨rfl, b2⟩))
          go_ret2
          exact ParsePost.yes (HErr.out.trans HZ.out) HR.out HZ.out ((HPP.out.below b2).up b2.size) (below_step HBwr.out b2)
        · have HNz : Hid (¬ codeErr L.length (nthP L) = 0) := hc
          have hne : (codeErr L.length (nthP L) != 0) = true := by simp [hc]
          clear hc
          go_wp2_with (first
            | (go_at_call 15; refine HCk.out.mono ?_; rintro e w2 ⟨rfl, b2⟩))
          go_ret2
          exact ParsePost.no HErr.out HNz.out (below_step HBwr.out b2)
  · have hem : ((bs x).toList).isEmpty = false := by rw [ByteArray.toList_eq, bs_data]; cases x with
      | nil => exact absurd rfl hx
      | cons a l => rfl
    have HErr : Hid (parseErr s.data.toList = 1) := by show _ = _; rw [HPE.out, htxt, readL_open hx hxf]
    clear hx hxf htxt
    go_enter Tryz.func41, Tryz.ntmps41
    go_wp2_with (first
      | (go_at_call 89; refine HSp.out.mono ?_; rintro e w1 ⟨rfl, rfl⟩))
    go_ret2
    exact ParsePost.no HErr.out (by decide) HBW.out

end Go.Proofs.YtfaokaohhchdhaaGreatDoor
