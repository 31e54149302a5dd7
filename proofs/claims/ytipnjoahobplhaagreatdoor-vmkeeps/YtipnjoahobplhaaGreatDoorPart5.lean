/- Reach: the error of what it is given, or the list of what is reached. -/
import Derived.Test.YtipnjoahobplhaaGreatDoorPart4
import Derived.Test.YtipnjoahobplhaaGreatDoorPart0
import Derived.Lib.SliceRun
import Derived.Deep.Slices
import Derived.Test.YtipnjoahobplhaaGreatDoorPart2
import Derived.Deep.Light
namespace Go.Proofs.YtipnjoahobplhaaGreatDoor
open Go.RowKit Go.Maps
theorem rst_start (w : World) : RSt (((w.alloc (.cells #[.slice none 0 0] 30)).alloc (.map #[] 0)).alloc (.cells #[.map (some (w.heap.size + 1))] 134)) w.heap.size (w.heap.size + 1 + 1) (w.heap.size + 1) (w.heap.size + 3) []:=by
 refine ⟨by omega,by omega,by omega,by omega,by omega,by omega,by simp,⟨.slice none 0 0,?_,World.ownsRow_nil _ _ _ _⟩,?_,?_,?_⟩
 ·rw [World.cell?_alloc_lt _ _ _ (by simp; omega),World.cell?_alloc_lt _ _ _ (by simp),World.cell?_alloc_new]; rfl
 ·rw [(below_alloc _ _).frozen (by simp; omega),(below_alloc _ _).frozen (by simp)]
  exact World.frozen?_alloc_new _ _ _ _
 ·have:=World.cell?_alloc_new ((w.alloc (.cells #[.slice none 0 0] 30)).alloc (.map #[] 0)) #[.map (some (w.heap.size + 1))] 134 0
  simpa using this
 ·have h1:=World.ownsMap_made (w.alloc (.cells #[.slice none 0 0] 30)) Tryz.prog 3 (unitElem (H:=Unit))
  have h2:=h1.alloc (.cells #[.map (some (w.heap.size + 1))] 134)
  rw [setD_nil]
  simpa using h2
theorem own_intsv {w : World} {base : Nat} {v : Value} {R : List Int} (h : w.ownsRow base 3 1 v R.length (R.map (Value.int .i64))) : IntsAt w v R.length (fun i => R.getD i 0):=by
 rcases h.2 with ⟨rfl,h0⟩ | ⟨g,cap,cur,rfl,r⟩
 ·rw [h0]; exact ⟨none,0,rfl,Or.inl rfl⟩
 ·refine ⟨_,cap,rfl,Or.inr ⟨g,0,rfl,(h.lt g rfl).2,fun i hi => ?_⟩⟩
  rw [Nat.zero_add,h.cellAt i (by omega)]
  simp [List.getElem?_eq_getElem hi]
set_option maxHeartbeats 1000000 in
theorem reach_ok (v u : Value) (n : Nat) (m : Nat→Nat) (K Z : Nat→Nat→Int) (f : Nat) (kf zf : Nat→Int) (w : World) (h : CellsAt w v n m K Z) (hu : ValsAt w u f kf zf)
  (hv : Valid n m K Z f kf zf) :
  Calls Tryz.prog 59 #[v,u] w fun e w' => ∃ s,e = .returned (.tuple #[s,.int .i64 0])∧IntsAt w' s (reached n m K Z f kf zf).length (fun i => (reached n m K Z f kf zf).getD i 0)∧Below w.heap.size w w':=by
 have hmm:=@run_makeMap Tryz.prog
 have het : (reachErr n m K Z f kf zf != 0) = false:=by simp [reachErr_zero.2 hv]
 have HV : Hid (Valid n m K Z f kf zf):=hv
 have hn24:=hv.few
 have hf400:=hv.short
 clear hv
 have h':=h
 obtain ⟨a,cap,rfl,hn,hc⟩:=h'
 go_enter Tryz.func59,Tryz.ntmps59
 go_wp2_with (first
  | (go_at_call 89; refine (cCheckReach _ _ _ _ _ _ _ _ _ _ h hu).mono ?_; rintro e w1 ⟨rfl,hb1⟩)
  | (go_at_call 90; refine (cMeetV _ f kf zf w _ _ _ (w1.heap.size + 1) (w1.heap.size + 3) [] hu (((hb1.alloc hb1.size _).alloc (by have:=hb1.size; simp; omega) _).alloc (by have:=hb1.size; simp; omega) _) (rst_start w1) hb1.size (Nat.le_succ_of_le hb1.size) (by simp; omega) (fun i hi hk => by have:=HV.out.from i hi hk; omega)).mono ?_; rintro e w2 ⟨rfl,hst,hb2⟩))
 clear hmm
 have HW1 : Hid (w.heap.size ≤ w1.heap.size):=hb1.size
 clear hb1
 generalize w1.heap.size = N at *
 go_loopw [10] (fun i wr => ∃ j : Nat,j ≤ n∧i = .int .i64 j∧RSt wr N (N + 1 + 1) (N + 1) (N + 3) (rt m K Z f kf zf j)∧Below w.heap.size w wr∧j ≤ (rt m K Z f kf zf j).length) (fun i _ => n - (intOf i).toNat)
 case atStart => exact ⟨0,Nat.zero_le _,rfl,hst,hb2,Nat.zero_le _⟩
 case round =>
  clear hst hb2
  obtain ⟨j,hj,rfl,hst,hb,hjl⟩:=hrel
  have hg:=rt_good HV.out j
  have hgl:=hg.len
  have HN : Hid (j < (rt m K Z f kf zf j).length→rt m K Z f kf zf (j + 1) = stepR m K Z j (rt m K Z f kf zf j)):=rt_next
  have HD : Hid (¬ j < (rt m K Z f kf zf j).length→reached n m K Z f kf zf = rt m K Z f kf zf j):=rt_done hj
  generalize rt m K Z f kf zf j = R at *
  obtain ⟨sv,hsc,hrow⟩:=hst.list
  have hints:=own_intsv hrow
  obtain ⟨sa,scap,rfl⟩:=own_shape hrow
  by_cases hlt : j < R.length
  ·obtain ⟨c,hcn,hce⟩:=hg.at hlt
   have HS : Hid (rt m K Z f kf zf (j + 1) = meetTo (m c) (K c) (Z c) R):=by
    have e:=HN.out hlt
    unfold stepR at e
    rw [hce] at e
    exact e
   rcases hc with hc | ⟨p,o,rfl,hp,gc⟩
   ·omega
   obtain ⟨x,hx,hvx⟩:=gc c hcn
   rw [← hb.cell hp] at hx
   obtain ⟨a2,cap2,e2,hi | ⟨g2,o2,rfl,hg2,gi⟩⟩:=hints
   ·omega
   cases e2
   have hcell : wr.cell? ⟨g2,o2 + j,none⟩ = some (.int .i64 (R.getD j 0)):=gi j hlt
   rw [hce] at hcell
   have hm4:=HV.out.most c hcn
   have HF : Hid (∀ i,i < m c→K c i = 2→0 ≤ Z c i∧Z c i ≤ 1000):=fun i hi hk => by have:=HV.out.field c hcn i hi hk; omega
   have HG : Hid (∀ t,Good n t→t.length ≤ n):=fun t ht => ht.len
   have HGN : Hid (Good n (rt m K Z f kf zf (j + 1))):=rt_good HV.out (j + 1)
   clear gi gc hg HN HD hce hrow
   go_wp2_with (go_at_call 90; refine (cMeetV _ (m c) (K c) (Z c) w _ _ _ (N + 1) (N + 3) R hvx hb hst HW1.out (Nat.le_succ_of_le HW1.out) (by omega) HF.out).mono ?_; rintro e w3 ⟨rfl,hst3,hb3⟩)
   go_roundw
   case rel =>
    rw [← HS.out] at hst3
    refine ⟨j + 1,by omega,by go_num,hst3,hb3,?_⟩
    rw [HS.out]
    exact Nat.le_trans hlt (meetTo_more _ _ _ _)
   case measure => simp [intOf]; omega
  ·have HE : Hid (reached n m K Z f kf zf = R):=HD.out hlt
   clear HN HD hg hrow
   go_wp2
   go_ret2
   exact ⟨_,rfl,by rw [HE.out]; exact hints,hb⟩
def flatV : List (Int × Int)→List Value
 | [] => []
 | p :: L => .int .i64 p.1 :: .int .i64 p.2 :: flatV L
theorem flatV_len : ∀ L : List (Int × Int),(flatV L).length = L.length * 2
 | [] => rfl
 | p :: L => by simp only [flatV,List.length_cons,flatV_len L]; omega
theorem flatV_append : ∀ (L M : List (Int × Int)),flatV (L ++ M) = flatV L ++ flatV M
 | [],M => rfl
 | p :: L,M => by simp only [List.cons_append,flatV,flatV_append L M]
theorem flatV_one : ∀ (L : List (Int × Int)),∀ u ∈ flatV L,u.oneCell' = true
 | [],u,h => absurd h List.not_mem_nil
 | p :: L,u,h => by
  simp only [flatV,List.mem_cons] at h
  rcases h with rfl | rfl | h
  ·rfl
  ·rfl
  ·exact flatV_one L u h
theorem flatV_at : ∀ (L : List (Int × Int)) (i : Nat),i < L.length→(flatV L)[i * 2]? = some (.int .i64 (fstAt L i))∧(flatV L)[i * 2 + 1]? = some (.int .i64 (sndAt L i))
 | [],i,h => absurd h (Nat.not_lt_zero _)
 | p :: L,0,_ => ⟨rfl,rfl⟩
 | p :: L,i + 1,h => by
  have:=flatV_at L i (by simpa using h)
  have e : (i + 1) * 2 = i * 2 + 1 + 1:=by omega
  simp only [e,flatV,List.getElem?_cons_succ]
  exact this
theorem fstAt_row {n : Nat} {k z : Nat→Int} {i : Nat} (h : i < n) : fstAt (rowL n k z) i = k i:=by
 simp [fstAt,rowL,List.getD,h]
theorem sndAt_row {n : Nat} {k z : Nat→Int} {i : Nat} (h : i < n) : sndAt (rowL n k z) i = z i:=by
 simp [sndAt,rowL,List.getD,h]
theorem row_news {w : World} {b o n : Nat} {k z : Nat→Int} (g : ∀ i,i < n→w.cell? ⟨b,o + i * 2,none⟩ = some (.int .i64 (k i))∧w.cell? ⟨b,o + i * 2 + 1,none⟩ = some (.int .i64 (z i))) :
  ∀ j u,(flatV (rowL n k z))[j]? = some u→w.cell? ((⟨b,o,none⟩ : Addr).add j) = some u:=by
 intro j u hj
 have hl : j < n * 2:=by
  have:=(List.getElem?_eq_some_iff.1 hj).1
  rw [flatV_len,rowL_len] at this
  exact this
 rw [WideShapes.add_plain]
 have hi : j / 2 < n:=by omega
 obtain ⟨f0,f1⟩:=flatV_at (rowL n k z) (j / 2) (by rw [rowL_len]; exact hi)
 rw [fstAt_row hi] at f0
 rw [sndAt_row hi] at f1
 obtain ⟨g0,g1⟩:=g (j / 2) hi
 rcases Nat.mod_two_eq_zero_or_one j with e | e
 ·have ej : j = j / 2 * 2:=by omega
  rw [← ej] at f0 g0
  rw [f0] at hj
  rw [g0]; exact hj
 ·have ej : j = j / 2 * 2 + 1:=by omega
  rw [← ej] at f1
  rw [Nat.add_assoc,← ej] at g1
  rw [f1] at hj
  rw [g1]; exact hj
theorem infoVal : (Tryz.prog.info? 61).map (fun i => (i.zero,i.size,i.bytes)) = some (some (.agg #[.int .i64 0,.int .i64 0]),2,16):=by kernel_rfl
theorem own_vals {w : World} {base : Nat} {v : Value} {L : List (Int × Int)} (h : w.ownsRow base 61 2 v L.length (flatV L)) (hL : L.length ≤ 100000) : ValsAt w v L.length (fstAt L) (sndAt L):=by
 rcases h.2 with ⟨rfl,h0⟩ | ⟨g,cap,cur,rfl,r⟩
 ·rw [h0]; exact ⟨none,0,rfl,by omega,Or.inl rfl⟩
 ·refine ⟨_,cap,rfl,by omega,Or.inr ⟨g,0,rfl,(h.lt g rfl).2,fun i hi => ?_⟩⟩
  obtain ⟨f0,f1⟩:=flatV_at L i hi
  rw [Nat.zero_add,h.cellAt (i * 2) (by omega),h.cellAt (i * 2 + 1) (by omega)]
  exact ⟨f0,f1⟩
theorem append_vals {ops : Array Oper} {rest : List Oper} {o : Oper} {a : Act} {Q : Exit→Act→World→Prop} (w : World) (hgd : o.guard = none) (s y : Operand)
  (ho : o.op = .call { callee:=.builtin .append,args:=#[s,y],argTypes:=#[35,35] }) (base : Nat) (v : Value) (L : List (Int × Int)) (hs : a.eval s = v) (hown : w.ownsRow base 61 2 v L.length (flatV L))
  (ad : Addr) (n c : Nat) (k z : Nat→Int) (hy : a.eval y = .slice (some ad) n c) (hnews : ∀ j u,(flatV (rowL n k z))[j]? = some u→w.cell? (ad.add j) = some u) (hR : L.length + n ≤ 100000) (hbase : base ≤ w.heap.size)
  (h : ∀ ad' cap w2,w2.ownsRow base 61 2 (.slice ad' (L.length + n) cap) (L ++ rowL n k z).length (flatV (L ++ rowL n k z))→w.grownBy w2 v.ownBlock→wpList Tryz.prog ops Q rest (a.put o.dst (.slice ad' (L.length + n) cap)) w2) :
  wpList Tryz.prog ops Q (o :: rest) a w:=by
 obtain ⟨i0,hi,hz0,hz1,hz2⟩:=info_parts infoVal
 refine wpList_append_own _ hgd s y 35 ho base 61 i0 (.agg #[.int .i64 0,.int .i64 0]) 2 16 Tryz.underlying35 hi hz0 hz1 hz2 rfl (by decide) v _ _ hs hown ad n c (flatV (rowL n k z)) hy (by rw [flatV_len,rowL_len]) hnews (flatV_one _) (by unfold maxLen; omega) (by omega) hbase ?_
 intro v' w2 h1 h2 _
 obtain ⟨ad',cap,rfl⟩:=own_shape h1
 refine h ad' cap w2 ?_ h2
 rw [List.length_append,rowL_len,flatV_append]
 exact h1
set_option maxHeartbeats 400000 in
theorem cloneV (v : Value) (n : Nat) (k z : Nat→Int) (w : World) (h : ValsAt w v n k z) (hn : n ≤ 1000) :
  Calls Tryz.prog 81 #[v] w fun e w' => ∃ ad cap,e = .returned (.slice ad n cap)∧w'.ownsRow w.heap.size 61 2 (.slice ad n cap) (rowL n k z).length (flatV (rowL n k z))∧Below w.heap.size w w':=by
 obtain ⟨a,cap,rfl,_,h⟩:=h
 rcases a with _ | ad
 ·obtain rfl : n = 0:=by
   rcases h with h | ⟨b,o,e,_⟩
   ·exact h
   ·cases e
  have hq:=fun (w : World) => Lib.run_eql_slice_nil (P:=Tryz.prog) w 35 61 none 0 cap 0 0 Tryz.underlying35
  go_enter Tryz.func81,Tryz.ntmps81
  go_wp2_with fail
  go_ret
  exact ⟨none,0,rfl,World.ownsRow_nil _ _ _ _,Below.refl _ _⟩
 ·have hq:=fun (w : World) => Lib.run_eql_slice_nil (P:=Tryz.prog) w 35 61 (some ad) n cap 0 0 Tryz.underlying35
  have HN : Hid (∀ o : Obj,∀ j u,(flatV (rowL n k z))[j]? = some u→(w.alloc o).cell? (ad.add j) = some u):=by
   intro o j u hj
   rcases h with rfl | ⟨b,o',e,hlt,g⟩
   ·cases hj
   ·cases e
    have:=row_news g j u hj
    rw [WideShapes.add_plain] at this ⊢
    exact ((below_alloc w o).cell hlt).trans this
  clear h
  go_enter Tryz.func81,Tryz.ntmps81
  go_wp2_with (at_builtin; refine append_vals _ rfl _ _ rfl w.heap.size _ [] rfl (World.ownsRow_lit w #[] 0 (Nat.le_refl _) (by decide) rfl) ad n cap k z rfl (HN.out _) (by simp; omega) (by simp) ?_; intro ad' cp w2 hown hgrow)
  have hg : (w.alloc (.cells #[] 61)).grownBy w2 (some w.heap.size):=hgrow
  go_ret
  refine ⟨ad',cp,rfl,?_,(below_alloc w _).grown hg (by simp) (fun k hk => by cases hk; exact Nat.le_refl _)⟩
  simpa using hown
theorem infoLVal : (Tryz.prog.info? 35).map (fun i => (i.zero,i.size,i.bytes)) = some (some (.slice none 0 0),1,24):=by kernel_rfl
theorem own_cells {w : World} {base : Nat} {v : Value} {us : List Value} {m : Nat→Nat} {K Z : Nat→Nat→Int} (h : w.ownsRow base 35 1 v us.length us) (hu : ∀ i,i < us.length→∃ u,us[i]? = some u∧ValsAt w u (m i) (K i) (Z i))
  (hL : us.length ≤ 100000) : CellsAt w v us.length m K Z:=by
 rcases h.2 with ⟨rfl,h0⟩ | ⟨g,cap,cur,rfl,r⟩
 ·rw [h0]; exact ⟨none,0,rfl,by omega,Or.inl rfl⟩
 ·refine ⟨_,cap,rfl,by omega,Or.inr ⟨g,0,rfl,(h.lt g rfl).2,fun i hi => ?_⟩⟩
  obtain ⟨u,hu1,hu2⟩:=hu i hi
  exact ⟨u,by rw [Nat.zero_add,h.cellAt i (by omega)]; exact hu1,hu2⟩
theorem vals_one {w : World} {u : Value} {n : Nat} {k z : Nat→Int} (h : ValsAt w u n k z) : u.oneCell' = true:=by
 obtain ⟨a,cap,rfl,_⟩:=h
 rfl
theorem append_cells {ops : Array Oper} {rest : List Oper} {o : Oper} {a : Act} {Q : Exit→Act→World→Prop} (w : World) (hgd : o.guard = none) (s y : Operand)
  (ho : o.op = .call { callee:=.builtin .append,args:=#[s,y],argTypes:=#[24,24] }) (base : Nat) (v : Value) (us : List Value) (hs : a.eval s = v) (hown : w.ownsRow base 35 1 v us.length us)
  (ad : Addr) (c : Nat) (news : List Value) (hy : a.eval y = .slice (some ad) news.length c) (hnews : ∀ j u,news[j]? = some u→w.cell? (ad.add j) = some u) (h1 : ∀ u ∈ news,u.oneCell' = true) (hR : us.length + news.length ≤ 100000) (hbase : base ≤ w.heap.size)
  (h : ∀ ad' cap w2,w2.ownsRow base 35 1 (.slice ad' (us.length + news.length) cap) (us ++ news).length (us ++ news)→w.grownBy w2 v.ownBlock→wpList Tryz.prog ops Q rest (a.put o.dst (.slice ad' (us.length + news.length) cap)) w2) :
  wpList Tryz.prog ops Q (o :: rest) a w:=by
 obtain ⟨i0,hi,hz0,hz1,hz2⟩:=info_parts infoLVal
 refine wpList_append_own _ hgd s y 24 ho base 35 i0 (.slice none 0 0) 1 24 Tryz.underlying24 hi hz0 hz1 hz2 rfl (by decide) v _ _ hs hown ad _ c news hy (by omega) hnews h1 (by unfold maxLen; omega) (by omega) hbase ?_
 intro v' w2 hr hg _
 obtain ⟨ad',cap,rfl⟩:=own_shape hr
 refine h ad' cap w2 ?_ hg
 rw [List.length_append]
 exact hr
end Go.Proofs.YtipnjoahobplhaaGreatDoor
namespace Go.Proofs.YtipnjoahobplhaaGreatDoor
open Go.ChangeShapes Go.WideShapes Go.ChangeAt Go.RowKit
def NumsAt (N : Nat) (w : World) (v : Value) (n : Nat) (z : Nat→Int) : Prop :=
 ∃ a cap,v = .slice a n cap∧n ≤ 9223372036854775807∧(n = 0 ∨ ∃ b o,a = some ⟨b,o,none⟩∧b < N∧∀ i,i < n→w.cell? ⟨b,o + i,none⟩ = some (.int .i64 (z i)))
def CodeAt (N : Nat) (w : World) (v : Value) (n : Nat) (ins : Nat→In) : Prop :=
 ∃ a cap,v = .slice a n cap∧n ≤ 9223372036854775807∧(n = 0 ∨ ∃ b o,a = some ⟨b,o,none⟩∧b < N∧∀ i,i < n→∃ va,
  w.cell? ⟨b,o + i * 5,none⟩ = some (.int .i64 (ins i).op)∧w.cell? ⟨b,o + i * 5 + 1,none⟩ = some (.int .i64 (ins i).a)∧w.cell? ⟨b,o + i * 5 + 2,none⟩ = some (.int .i64 (ins i).b) ∧
   w.cell? ⟨b,o + i * 5 + 3,none⟩ = some (.int .i64 (ins i).c)∧w.cell? ⟨b,o + i * 5 + 4,none⟩ = some va∧NumsAt N w va (ins i).n (ins i).z)
def ProcsAt (N : Nat) (w : World) (v : Value) (np : Nat) (P : Nat→Pc) : Prop :=
 ∃ a cap,v = .slice a np cap∧np ≤ 9223372036854775807∧(np = 0 ∨ ∃ b o,a = some ⟨b,o,none⟩∧b < N∧∀ i,i < np→∃ vc,
  w.cell? ⟨b,o + i * 3,none⟩ = some (.int .i64 (P i).params)∧w.cell? ⟨b,o + i * 3 + 1,none⟩ = some (.int .i64 (P i).regs)∧w.cell? ⟨b,o + i * 3 + 2,none⟩ = some vc∧CodeAt N w vc (P i).n (P i).ins)
theorem NumsAt.below {N : Nat} {w w' : World} {v : Value} {n : Nat} {z : Nat→Int} (h : NumsAt N w v n z) (hb : Below N w w') : NumsAt N w' v n z:=by
 obtain ⟨a,cap,rfl,hn,h | ⟨b,o,rfl,hlt,hc⟩⟩:=h
 ·exact ⟨a,cap,rfl,hn,Or.inl h⟩
 ·exact ⟨_,cap,rfl,hn,Or.inr ⟨b,o,rfl,hlt,fun i hi => by rw [hb.cell hlt]; exact hc i hi⟩⟩
theorem CodeAt.below {N : Nat} {w w' : World} {v : Value} {n : Nat} {ins : Nat→In} (h : CodeAt N w v n ins) (hb : Below N w w') : CodeAt N w' v n ins:=by
 obtain ⟨a,cap,rfl,hn,h | ⟨b,o,rfl,hlt,hc⟩⟩:=h
 ·exact ⟨a,cap,rfl,hn,Or.inl h⟩
 ·refine ⟨_,cap,rfl,hn,Or.inr ⟨b,o,rfl,hlt,fun i hi => ?_⟩⟩
  obtain ⟨va,c0,c1,c2,c3,c4,hv⟩:=hc i hi
  exact ⟨va,by rw [hb.cell hlt]; exact c0,by rw [hb.cell hlt]; exact c1,by rw [hb.cell hlt]; exact c2,by rw [hb.cell hlt]; exact c3,by rw [hb.cell hlt]; exact c4,hv.below hb⟩
theorem ProcsAt.below {N : Nat} {w w' : World} {v : Value} {np : Nat} {P : Nat→Pc} (h : ProcsAt N w v np P) (hb : Below N w w') : ProcsAt N w' v np P:=by
 obtain ⟨a,cap,rfl,hn,h | ⟨b,o,rfl,hlt,hc⟩⟩:=h
 ·exact ⟨a,cap,rfl,hn,Or.inl h⟩
 ·refine ⟨_,cap,rfl,hn,Or.inr ⟨b,o,rfl,hlt,fun i hi => ?_⟩⟩
  obtain ⟨vc,c0,c1,c2,hv⟩:=hc i hi
  exact ⟨vc,by rw [hb.cell hlt]; exact c0,by rw [hb.cell hlt]; exact c1,by rw [hb.cell hlt]; exact c2,hv.below hb⟩
theorem NumsAt.shape {N : Nat} {w : World} {v : Value} {n : Nat} {z : Nat→Int} (h : NumsAt N w v n z) : ∃ a cap,v = .slice a n cap∧n ≤ 9223372036854775807:=by
 obtain ⟨a,cap,rfl,hn,_⟩:=h; exact ⟨a,cap,rfl,hn⟩
set_option maxHeartbeats 1000000 in
theorem isFrom (n lo hi : Int) (w : World) : Calls Tryz.prog 77 #[.int .i64 n,.int .i64 lo,.int .i64 hi] w fun e w' => e = .returned (.bool (fromB n lo hi))∧w' = w:=by
 go_enter Tryz.func77,Tryz.ntmps77
 go_wp2
 all_goals
  go_ret
  refine ⟨ret_bool ?_,rfl⟩
  go_light
  unfold fromB
  simp_all
  try omega
set_option maxHeartbeats 4000000 in
theorem bare (i : In) (a : Option Addr) (cap : Nat) (w : World) : Calls Tryz.prog 134 #[.agg #[.int .i64 i.op,.int .i64 i.a,.int .i64 i.b,.int .i64 i.c,.slice a i.n cap]] w fun e w' => e = .returned (.bool (bareB i))∧Below w.heap.size w w':=by
 obtain ⟨op,x,y,z,n,f⟩:=i
 go_enter Tryz.func134,Tryz.ntmps134
 go_wp2
 all_goals
  go_ret
  refine ⟨ret_bool ?_,below_alloc _ _⟩
  go_light
  unfold bareB
  simp_all
  try (rw [Bool.eq_iff_iff]; simp; try omega)
set_option maxHeartbeats 4000000 in
theorem restFits (N : Nat) (i : In) (v : Value) (code : Int) (hc : 1 ≤ code) (hc2 : code ≤ 100000) (w : World) (hN : N ≤ w.heap.size) (h : NumsAt N w v i.n i.z) :
  Calls Tryz.prog 133 #[.agg #[.int .i64 i.op,.int .i64 i.a,.int .i64 i.b,.int .i64 i.c,v],.int .i64 code] w fun e w' => e = .returned (.bool (restB i code))∧Below w.heap.size w w':=by
 obtain ⟨op,x,y,z,n,f⟩:=i
 obtain ⟨a,cap,rfl,hn,h⟩:=h
 have HF : Hid (∀ n lo hi wi,Calls Tryz.prog 77 #[.int .i64 n,.int .i64 lo,.int .i64 hi] wi fun e w' => e = .returned (.bool (fromB n lo hi))∧w' = wi):=isFrom
 by_cases h1 : n = 1
 ·subst h1
  obtain ⟨b,o,rfl,hb,hc0⟩ : ∃ b o,a = some ⟨b,o,none⟩∧b < N∧∀ i,i < 1→w.cell? ⟨b,o + i,none⟩ = some (.int .i64 (f i)):=by
   rcases h with h | h
   ·cases h
   ·exact h
  have q0 : ∀ ob : Obj,(w.alloc ob).cell? ⟨b,o,none⟩ = some (.int .i64 (f 0)):=fun ob => by
   rw [(below_alloc w ob).cell (p:=⟨b,o,none⟩) (Nat.lt_of_lt_of_le hb hN)]; exact hc0 0 (by omega)
  clear hc0 h
  go_enter Tryz.func133,Tryz.ntmps133
  go_wp2_with (go_at_call 77; refine (HF.out _ _ _ _).mono ?_; rintro e w1 ⟨rfl,h1⟩; rw [h1]; clear h1)
  all_goals
   go_ret
   refine ⟨ret_bool ?_,below_alloc _ _⟩
   go_light
   unfold restB
   simp_all
 ·have h1i : ((n : Int) == 1) = false:=by simp; omega
  have h1n : decide (n = 1) = false:=by simp [h1]
  clear h
  go_enter Tryz.func133,Tryz.ntmps133
  go_wp2_with (go_at_call 77; refine (HF.out _ _ _ _).mono ?_; rintro e w1 ⟨rfl,h1⟩; rw [h1]; clear h1)
  all_goals
   go_ret
   refine ⟨ret_bool ?_,below_alloc _ _⟩
   go_light
   unfold restB
   simp_all
end Go.Proofs.YtipnjoahobplhaaGreatDoor
