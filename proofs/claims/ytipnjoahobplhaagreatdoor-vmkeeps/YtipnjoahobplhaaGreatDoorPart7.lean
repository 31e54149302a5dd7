/- copied: a state in new memory. -/
import Derived.Test.YtipnjoahobplhaaGreatDoorVmMem
import Derived.Deep.RegionHeld3
namespace Go.Proofs.YtipnjoahobplhaaGreatDoor
open Go.RowKit Go.Maps
theorem rowL_self (L : List (Int × Int)) : rowL L.length (fstAt L) (sndAt L) = L:=by
 refine List.ext_getElem (by simp [rowL]) fun i h1 h2 => ?_
 simp [rowL,fstAt,sndAt,List.getD_eq_getElem?_getD,List.getElem?_eq_getElem h2]
theorem cloneRow (v : Value) (L : List (Int × Int)) (w : World) (h : RowAt w v L) (hn : L.length ≤ 1000) :
  Calls Tryz.prog 81 #[v] w fun e w' => ∃ ad cap,e = .returned (.slice ad L.length cap)∧Hid (VRow w.heap.size w' (.slice ad L.length cap) L)∧Below w.heap.size w w':=by
 refine (cloneV v L.length _ _ w h hn).mono ?_
 rintro e w' ⟨ad,cap,rfl,h1,h2⟩
 rw [rowL_self] at h1
 exact ⟨ad,cap,rfl,h1,h2⟩
theorem flatF_row : ∀ (fs : List Fm) (us : List Value) (i : Nat) (u : Value),us.length = fs.length→flatF fs (us.set i u) = (flatF fs us).set (i * 4 + 2) u
 | [],us,i,u,_ => by simp [flatF]
 | f :: fs,[],i,u,h => by simp at h
 | f :: fs,x :: us,0,u,_ => rfl
 | f :: fs,x :: us,i + 1,u,h => by
  rw [show (i + 1) * 4 + 2 = i * 4 + 2 + 1 + 1 + 1 + 1 by omega]
  simp only [List.set_cons_succ,flatF,flatF_row fs us i u (by simpa using h)]
theorem flatF_one {fs : List Fm} : ∀ {us : List Value},(∀ u,u ∈ us→u.oneCell' = true)→∀ u ∈ flatF fs us,u.oneCell' = true:=by
 induction fs with
 | nil => intro us _ u h; exact absurd h List.not_mem_nil
 | cons f fs ih =>
  intro us hu u h
  cases us with
  | nil => exact absurd h List.not_mem_nil
  | cons x us =>
   simp only [flatF,List.mem_cons] at h
   rcases h with rfl | rfl | rfl | rfl | h
   ·rfl
   ·rfl
   ·exact hu _ (by simp)
   ·rfl
   ·exact ih (fun y hy => hu y (by simp [hy])) u h
theorem infoFrame : (Tryz.prog.info? 40).map (fun i => (i.zero,i.size,i.bytes)) = some (some (.agg #[.int .i64 0,.int .i64 0,.slice none 0 0,.int .i64 0]),4,48):=by kernel_rfl
theorem frames_us {w : World} {fs : List Fm} {b o : Nat} (hc : ∀ i,i < fs.length→∃ u,w.cell? ⟨b,o + i * 4,none⟩ = some (.int .i64 (fmAt fs i).proc)∧w.cell? ⟨b,o + i * 4 + 1,none⟩ = some (.int .i64 (fmAt fs i).pos)∧w.cell? ⟨b,o + i * 4 + 2,none⟩ = some u∧w.cell? ⟨b,o + i * 4 + 3,none⟩ = some (.int .i64 (fmAt fs i).to)∧RowAt w u (fmAt fs i).regs) :
  ∃ us : List Value,us.length = fs.length∧(∀ i,i < fs.length→∃ u,us[i]? = some u∧RowAt w u (fmAt fs i).regs)∧(∀ u,u ∈ us→u.oneCell' = true)∧∀ j u,(flatF fs us)[j]? = some u→w.cell? ((⟨b,o,none⟩ : Addr).add j) = some u:=by
 obtain ⟨U,hU⟩:=Deep.choose_lt hc
 have hat : ∀ i,i < fs.length→((List.range fs.length).map U)[i]? = some (U i):=fun i hi => by simp [hi]
 have hlen : ((List.range fs.length).map U).length = fs.length:=by simp
 refine ⟨(List.range fs.length).map U,hlen,fun i hi => ⟨U i,hat i hi,(hU i hi).2.2.2.2⟩,fun u hu => ?_,fun j u hj => ?_⟩
 ·obtain ⟨i,hi,rfl⟩:=List.mem_map.1 hu
  exact vals_one (hU i (List.mem_range.1 hi)).2.2.2.2
 ·have hj' : j < fs.length * 4:=by
   have:=(List.getElem?_eq_some_iff.1 hj).1
   rwa [flatF_len _ _ hlen] at this
  have hi : j / 4 < fs.length:=by omega
  obtain ⟨x,h0,h1,h2,h3,h4⟩:=flatF_at fs _ hlen (j / 4) hi
  rw [hat _ hi] at h0
  cases h0
  obtain ⟨g0,g1,g2,g3,_⟩:=hU _ hi
  rw [WideShapes.add_plain]
  have hm : j % 4 = 0 ∨ j % 4 = 1 ∨ j % 4 = 2 ∨ j % 4 = 3:=by omega
  rcases hm with e | e | e | e
  ·have ej : j / 4 * 4 = j:=by omega
   rw [ej] at h1 g0
   rw [h1] at hj; rw [g0]; exact hj
  ·have ej : j / 4 * 4 + 1 = j:=by omega
   rw [ej] at h2
   rw [Nat.add_assoc,ej] at g1
   rw [h2] at hj; rw [g1]; exact hj
  ·have ej : j / 4 * 4 + 2 = j:=by omega
   rw [ej] at h3
   rw [Nat.add_assoc,ej] at g2
   rw [h3] at hj; rw [g2]; exact hj
  ·have ej : j / 4 * 4 + 3 = j:=by omega
   rw [ej] at h4
   rw [Nat.add_assoc,ej] at g3
   rw [h4] at hj; rw [g3]; exact hj
theorem append_frames {ops : Array Oper} {rest : List Oper} {o : Oper} {a : Act} {Q : Exit→Act→World→Prop} (w : World) (hgd : o.guard = none) (s y : Operand)
  (ho : o.op = .call { callee:=.builtin .append,args:=#[s,y],argTypes:=#[23,23] }) (base : Nat) (v : Value) (n0 : Nat) (xs : List Value) (hs : a.eval s = v) (hown : w.ownsRow base 40 4 v n0 xs)
  (ad : Addr) (n c : Nat) (news : List Value) (hy : a.eval y = .slice (some ad) n c) (hln : news.length = n * 4) (hnews : ∀ j u,news[j]? = some u→w.cell? (ad.add j) = some u) (h1 : ∀ u ∈ news,u.oneCell' = true) (hR : n0 + n ≤ 100000) (hbase : base ≤ w.heap.size)
  (h : ∀ ad' cap w2,w2.ownsRow base 40 4 (.slice ad' (n0 + n) cap) (n0 + n) (xs ++ news)→w.grownBy w2 v.ownBlock→wpList Tryz.prog ops Q rest (a.put o.dst (.slice ad' (n0 + n) cap)) w2) :
  wpList Tryz.prog ops Q (o :: rest) a w:=by
 obtain ⟨i0,hi,hz0,hz1,hz2⟩:=info_parts infoFrame
 refine wpList_append_own _ hgd s y 23 ho base 40 i0 (.agg #[.int .i64 0,.int .i64 0,.slice none 0 0,.int .i64 0]) 4 48 Tryz.underlying23 hi hz0 hz1 hz2 rfl (by decide) v n0 xs hs hown ad n c news hy hln hnews h1 (by unfold maxLen; omega) (by omega) hbase ?_
 intro v' w2 hr hg _
 obtain ⟨ad',cap,rfl⟩:=own_shape hr
 exact h ad' cap w2 hr hg
set_option maxHeartbeats 400000 in
theorem cloneF (w0 : World) (v : Value) (fs : List Fm) (w : World) (h : FramesAt w0 v fs) (hb0 : Below w0.heap.size w0 w) (hn : fs.length ≤ 1000) :
  Calls Tryz.prog 80 #[v] w fun e w' => ∃ ad cap us,e = .returned (.slice ad fs.length cap)∧Hid (us.length = fs.length∧w'.ownsRow w.heap.size 40 4 (.slice ad fs.length cap) fs.length (flatF fs us)∧(∀ i,i < fs.length→∃ u,us[i]? = some u∧RowAt w0 u (fmAt fs i).regs))∧Below w.heap.size w w':=by
 obtain ⟨a,cap,rfl,_,h⟩:=h
 rcases a with _ | ad
 ·have h0 : fs.length = 0:=by
   rcases h with h | ⟨b,o,e,_⟩
   ·exact h
   ·cases e
  obtain rfl : fs = []:=List.length_eq_zero_iff.1 h0
  have hq:=fun (w : World) => Lib.run_eql_slice_nil (P:=Tryz.prog) w 23 40 none 0 cap 0 0 Tryz.underlying23
  clear h h0 hb0
  go_enter Tryz.func80,Tryz.ntmps80
  go_wp2_with fail
  go_ret
  exact ⟨none,0,[],rfl,⟨rfl,World.ownsRow_nil _ _ _ _,fun i hi => absurd hi (Nat.not_lt_zero _)⟩,Below.refl _ _⟩
 ·have hq:=fun (w : World) => Lib.run_eql_slice_nil (P:=Tryz.prog) w 23 40 (some ad) fs.length cap 0 0 Tryz.underlying23
  obtain ⟨us,HU⟩ : ∃ us : List Value,Hid (us.length = fs.length∧(∀ i,i < fs.length→∃ u,us[i]? = some u∧RowAt w0 u (fmAt fs i).regs)∧(∀ u ∈ flatF fs us,u.oneCell' = true)∧∀ o : Obj,∀ j u,(flatF fs us)[j]? = some u→(w.alloc o).cell? (ad.add j) = some u):=by
   rcases h with h0 | ⟨b,o,e,hlt,g⟩
   ·obtain rfl : fs = []:=List.length_eq_zero_iff.1 h0
    exact ⟨[],rfl,fun i hi => absurd hi (Nat.not_lt_zero _),fun u hu => absurd hu List.not_mem_nil,fun o j u hj => by cases hj⟩
   ·cases e
    obtain ⟨us,h1,h2,h3,h4⟩:=frames_us g
    refine ⟨us,h1,h2,flatF_one h3,fun o' j u hj => ?_⟩
    have:=h4 j u hj
    rw [WideShapes.add_plain] at this ⊢
    exact ((below_alloc w o').cell (Nat.lt_of_lt_of_le hlt hb0.size)).trans ((hb0.cell hlt).trans this)
  clear h hb0
  have HN : Hid (fs.length ≤ 1000):=hn
  generalize hln : fs.length = n at *
  go_enter Tryz.func80,Tryz.ntmps80
  go_wp2_with (at_builtin; refine append_frames _ rfl _ _ rfl w.heap.size _ 0 [] rfl (World.ownsRow_lit w #[] 0 (Nat.le_refl _) (by decide) rfl) ad n cap (flatF fs us) rfl (by rw [flatF_len fs us (by rw [hln]; exact HU.out.1),hln]) (HU.out.2.2.2 _) HU.out.2.2.1 (by have:=HN.out; omega) (by simp) ?_; intro ad' cp w2 hown hgrow)
  have hg : (w.alloc (.cells #[] 40)).grownBy w2 (some w.heap.size):=hgrow
  go_ret
  refine ⟨ad',cp,us,by simp,⟨HU.out.1,by simpa using hown,HU.out.2.1⟩,(below_alloc w _).grown hg (by simp) (fun k hk => by cases hk; exact Nat.le_refl _)⟩
set_option maxHeartbeats 400000 in
theorem cloneC0 (w0 : World) (v : Value) (n : Nat) (m : Nat→Nat) (K Z : Nat→Nat→Int) (w : World) (h : CellsAt w0 v n m K Z) (hb0 : Below w0.heap.size w0 w) (hn : n ≤ 1000) :
  Calls Tryz.prog 82 #[v] w fun e w' => ∃ ad cap us,e = .returned (.slice ad n cap)∧Hid (us.length = n∧w'.ownsRow w.heap.size 35 1 (.slice ad n cap) n us∧(∀ i,i < n→∃ u,us[i]? = some u∧ValsAt w0 u (m i) (K i) (Z i)))∧Below w.heap.size w w':=by
 obtain ⟨a,cap,rfl,_,h⟩:=h
 rcases a with _ | ad
 ·obtain rfl : n = 0:=by
   rcases h with h | ⟨b,o,e,_⟩
   ·exact h
   ·cases e
  have hq:=fun (w : World) => Lib.run_eql_slice_nil (P:=Tryz.prog) w 24 35 none 0 cap 0 0 Tryz.underlying24
  clear h hb0
  go_enter Tryz.func82,Tryz.ntmps82
  go_wp2_with fail
  go_ret
  exact ⟨none,0,[],rfl,⟨rfl,World.ownsRow_nil _ _ _ _,fun i hi => absurd hi (Nat.not_lt_zero _)⟩,Below.refl _ _⟩
 ·have hq:=fun (w : World) => Lib.run_eql_slice_nil (P:=Tryz.prog) w 24 35 (some ad) n cap 0 0 Tryz.underlying24
  obtain ⟨us,hul,HU⟩ : ∃ us : List Value,us.length = n∧Hid ((∀ i,i < n→∃ u,us[i]? = some u∧ValsAt w0 u (m i) (K i) (Z i))∧(∀ u ∈ us,u.oneCell' = true)∧∀ o : Obj,∀ j u,us[j]? = some u→(w.alloc o).cell? (ad.add j) = some u):=by
   rcases h with rfl | ⟨b,o,e,hlt,g⟩
   ·exact ⟨[],rfl,fun i hi => absurd hi (Nat.not_lt_zero _),fun u hu => absurd hu List.not_mem_nil,fun o j u hj => by cases hj⟩
   ·cases e
    obtain ⟨U,hU⟩:=Deep.choose_lt g
    have hat : ∀ i,i < n→((List.range n).map U)[i]? = some (U i):=fun i hi => by simp [hi]
    refine ⟨(List.range n).map U,by simp,fun i hi => ⟨U i,hat i hi,(hU i hi).2⟩,fun u hu => ?_,fun o' j u hj => ?_⟩
    ·obtain ⟨i,hi,rfl⟩:=List.mem_map.1 hu
     exact vals_one (hU i (List.mem_range.1 hi)).2
    ·have hj' : j < n:=by
      have:=(List.getElem?_eq_some_iff.1 hj).1
      simpa using this
     rw [hat j hj'] at hj
     cases hj
     rw [WideShapes.add_plain]
     exact ((below_alloc w o').cell (Nat.lt_of_lt_of_le hlt hb0.size)).trans ((hb0.cell hlt).trans (hU j hj').1)
  clear h hb0
  subst hul
  go_enter Tryz.func82,Tryz.ntmps82
  go_wp2_with (at_builtin; refine append_cells _ rfl _ _ rfl w.heap.size _ [] rfl (World.ownsRow_lit w #[] 0 (Nat.le_refl _) (by decide) rfl) ad cap us rfl (HU.out.2.2 _) HU.out.2.1 (by simp; omega) (by simp) ?_; intro ad' cp w2 hown hgrow)
  have hg : (w.alloc (.cells #[] 35)).grownBy w2 (some w.heap.size):=hgrow
  go_ret
  refine ⟨ad',cp,us,by simp,⟨rfl,by simpa using hown,HU.out.1⟩,(below_alloc w _).grown hg (by simp) (fun k hk => by cases hk; exact Nat.le_refl _)⟩
def Box4 (t : TypeId) (X : Nat) (w : World) (a b c d : Value) : Prop:=w.heap[X]? = some (.cells #[a,b,c,d] t (0,0))
theorem Box4.at {t : TypeId} {X : Nat} {w : World} {a b c d : Value} (h : Box4 t X w a b c d) : w.cell? ⟨X,0,none⟩ = some a∧w.cell? ⟨X,1,none⟩ = some b∧w.cell? ⟨X,2,none⟩ = some c∧w.cell? ⟨X,3,none⟩ = some d∧∀ i,w.frozen? ⟨X,i,none⟩ = false:=by
 unfold Box4 at h
 refine ⟨?_,?_,?_,?_,fun i => ?_⟩
 ·unfold World.cell?; rw [h]; rfl
 ·unfold World.cell?; rw [h]; rfl
 ·unfold World.cell?; rw [h]; rfl
 ·unfold World.cell?; rw [h]; rfl
 ·unfold World.frozen?; rw [h]; simp
theorem Box4.set0 {t : TypeId} {X : Nat} {w : World} {a b c d : Value} (h : Box4 t X w a b c d) (v : Value) : Box4 t X (w.setCell ⟨X,0,none⟩ v) v b c d:=by
 unfold Box4 at h ⊢
 rw [heap_setCell_same w X 0 _ _ v h]; rfl
theorem Box4.set1 {t : TypeId} {X : Nat} {w : World} {a b c d : Value} (h : Box4 t X w a b c d) (v : Value) : Box4 t X (w.setCell ⟨X,1,none⟩ v) a v c d:=by
 unfold Box4 at h ⊢
 rw [heap_setCell_same w X 1 _ _ v h]; rfl
theorem Box4.keep {t : TypeId} {X : Nat} {w w' : World} {a b c d : Value} (h : Box4 t X w a b c d) (hb : w'.heap[X]? = w.heap[X]?) : Box4 t X w' a b c d:=by
 unfold Box4 at h ⊢; rw [hb]; exact h
def BoxXY (X : Nat) (w : World) (a b c d : Value) : Prop:=Box4 26 X w a b c d∧Box4 26 (X + 1) w (.slice none 0 0) (.slice none 0 0) (.int .i64 0) (.int .i64 0)
theorem BoxXY.at {X : Nat} {w : World} {a b c d : Value} (h : BoxXY X w a b c d) : w.cell? ⟨X,0,none⟩ = some a∧w.cell? ⟨X,1,none⟩ = some b∧w.cell? ⟨X,2,none⟩ = some c∧w.cell? ⟨X,3,none⟩ = some d∧∀ i,w.frozen? ⟨X,i,none⟩ = false:=Box4.at h.1
theorem BoxXY.set0 {X : Nat} {w : World} {a b c d : Value} (h : BoxXY X w a b c d) (v : Value) : BoxXY X (w.setCell ⟨X,0,none⟩ v) v b c d:=⟨h.1.set0 v,h.2.keep (Below.heap_setCell w _ _ _ (by show ¬ X + 1 = X; omega))⟩
theorem BoxXY.set1 {X : Nat} {w : World} {a b c d : Value} (h : BoxXY X w a b c d) (v : Value) : BoxXY X (w.setCell ⟨X,1,none⟩ v) a v c d:=⟨h.1.set1 v,h.2.keep (Below.heap_setCell w _ _ _ (by show ¬ X + 1 = X; omega))⟩
theorem BoxXY.keep {X : Nat} {w w' : World} {a b c d : Value} (h : BoxXY X w a b c d) (hb : ∀ k,k < X + 2→X ≤ k→w'.heap[k]? = w.heap[k]?) : BoxXY X w' a b c d:=⟨h.1.keep (hb X (by omega) (by omega)),h.2.keep (hb (X + 1) (by omega) (by omega))⟩
structure CFr (B : Nat) (w0 w : World) (fs : List Fm) (fv : Value) (n : Nat) (us : List Value) (j : Nat) : Prop where
 row : w.ownsRow B 40 4 fv n (flatF fs us)
 ul : us.length = fs.length
 new : ∀ i,i < j→∃ u,us[i]? = some u∧VRow B w u (fmAt fs i).regs
 old : ∀ i,j ≤ i→i < n→∃ u,us[i]? = some u∧RowAt w0 u (fmAt fs i).regs
 rr : ∀ (i k : Nat) (u u' : Value) (b : Nat),i < j→k < j→us[i]? = some u→us[k]? = some u'→u.ownBlock = some b→u'.ownBlock = some b→i = k
theorem ownsRow_lower {w : World} {B B' : Nat} {e : TypeId} {size : Nat} {v : Value} {n : Nat} {xs : List Value} (h : w.ownsRow B e size v n xs) (hb : B' ≤ B) : w.ownsRow B' e size v n xs :=
 ⟨h.1,h.2.imp id fun ⟨g,cap,cur,hv,hg,r⟩ => ⟨g,cap,cur,hv,Nat.le_trans hb hg,r⟩⟩
theorem VRow.mono {B B' : Nat} {w : World} {v : Value} {L : List (Int × Int)} (h : VRow B w v L) (hb : B' ≤ B) : VRow B' w v L:=ownsRow_lower h hb
theorem CFr.step {B M : Nat} {w0 wr w3 : World} {fs : List Fm} {g n cap : Nat} {us : List Value} {j : Nat} {v : Value} (h : CFr B w0 wr fs (.slice (some ⟨g,0,none⟩) n cap) n us j) (hn : fs.length = n) (hj : j < n) (hb : Below wr.heap.size wr w3) (hB : B ≤ wr.heap.size) (hv : VRow M w3 v (fmAt fs j).regs) (hM : wr.heap.size ≤ M) :
  CFr B w0 (w3.setCell ⟨g,j * 4 + 2,none⟩ v) fs (.slice (some ⟨g,0,none⟩) n cap) n (us.set j v) (j + 1):=by
 have hul:=h.ul
 have hlen:=flatF_len fs us hul
 have hrow : w3.ownsRow B 40 4 (.slice (some ⟨g,0,none⟩) n cap) n (flatF fs us):=ownsRow_block h.row fun k hk => hb.block k (h.row.lt k hk).2
 have keep : ∀ {B' : Nat} {u : Value} {L : List (Int × Int)},VRow B' w3 u L→VRow B' (w3.setCell ⟨g,j * 4 + 2,none⟩ v) u L:=fun hr => ownsRow_block hr fun k hk => Below.heap_setCell w3 _ _ k fun e => ownsRow_apart hr hrow (by decide) hk (by rw [e]; rfl)
 have old : ∀ i,i < j→∃ u,us[i]? = some u∧VRow B wr u (fmAt fs i).regs∧VRow B (w3.setCell ⟨g,j * 4 + 2,none⟩ v) u (fmAt fs i).regs:=fun i hi => by
  obtain ⟨u,h1,h2⟩:=h.new i hi
  exact ⟨u,h1,h2,keep (ownsRow_block h2 fun k hk => hb.block k (h2.lt k hk).2)⟩
 have hset : ∀ i,¬ i = j→(us.set j v)[i]? = us[i]?:=fun i hi => by rw [List.getElem?_set_ne (fun e => hi e.symm)]
 have hsj : (us.set j v)[j]? = some v:=by rw [List.getElem?_set_self (by omega)]
 refine ⟨?_,by simpa using hul,fun i hi => ?_,fun i h1 h2 => ?_,fun i k u u' b hi hk hu hu' hx hx' => ?_⟩
 ·rw [flatF_row _ _ _ _ hul]
  exact ownsRow_set hrow (j * 4 + 2) (by omega) _
 ·by_cases e : i = j
  ·subst e
   exact ⟨v,hsj,keep (hv.mono (by omega))⟩
  ·obtain ⟨u,h1,_,h3⟩:=old i (by omega)
   exact ⟨u,by rw [hset i e]; exact h1,h3⟩
 ·rw [hset i (by omega)]; exact h.old i (by omega) h2
 ·have low : ∀ i u b,i < j→us[i]? = some u→Value.ownBlock u = some b→b < wr.heap.size:=fun i u b hi hu hx => by
   obtain ⟨y,h1,h2,_⟩:=old i hi
   rw [hu] at h1; cases h1
   exact (h2.lt b hx).2
  by_cases e1 : i = j <;> by_cases e2 : k = j
  ·omega
  ·subst e1
   rw [hsj] at hu; cases hu
   rw [hset k e2] at hu'
   have:=low k u' b (by omega) hu' hx'
   have:=(hv.lt b hx).1
   omega
  ·subst e2
   rw [hsj] at hu'; cases hu'
   rw [hset i e1] at hu
   have:=low i u b (by omega) hu hx
   have:=(hv.lt b hx').1
   omega
  ·rw [hset i e1] at hu
   rw [hset k e2] at hu'
   exact h.rr i k u u' b (by omega) (by omega) hu hu' hx hx'
structure CCs (B : Nat) (w0 w : World) (cs : List (List (Int × Int))) (cv : Value) (n : Nat) (us : List Value) (j : Nat) : Prop where
 row : w.ownsRow B 35 1 cv n us
 new : ∀ i,i < j→∃ u,us[i]? = some u∧VRow B w u (cs.getD i [])
 old : ∀ i,j ≤ i→i < n→∃ u,us[i]? = some u∧RowAt w0 u (cs.getD i [])
 xx : ∀ (i k : Nat) (u u' : Value) (b : Nat),i < j→k < j→us[i]? = some u→us[k]? = some u'→u.ownBlock = some b→u'.ownBlock = some b→i = k
theorem CCs.step {B M : Nat} {w0 wr w3 : World} {cs : List (List (Int × Int))} {g n cap : Nat} {us : List Value} {j : Nat} {v : Value} (h : CCs B w0 wr cs (.slice (some ⟨g,0,none⟩) n cap) n us j) (hj : j < n) (hb : Below wr.heap.size wr w3) (hB : B ≤ wr.heap.size) (hv : VRow M w3 v (cs.getD j [])) (hM : wr.heap.size ≤ M) :
  CCs B w0 (w3.setCell ⟨g,j,none⟩ v) cs (.slice (some ⟨g,0,none⟩) n cap) n (us.set j v) (j + 1):=by
 have hul:=h.row.1
 have hrow : w3.ownsRow B 35 1 (.slice (some ⟨g,0,none⟩) n cap) n us:=ownsRow_block h.row fun k hk => hb.block k (h.row.lt k hk).2
 have keep : ∀ {B' : Nat} {u : Value} {L : List (Int × Int)},VRow B' w3 u L→VRow B' (w3.setCell ⟨g,j,none⟩ v) u L:=fun hr => ownsRow_block hr fun k hk => Below.heap_setCell w3 _ _ k fun e => ownsRow_apart hr hrow (by decide) hk (by rw [e]; rfl)
 have old : ∀ i,i < j→∃ u,us[i]? = some u∧VRow B wr u (cs.getD i [])∧VRow B (w3.setCell ⟨g,j,none⟩ v) u (cs.getD i []):=fun i hi => by
  obtain ⟨u,h1,h2⟩:=h.new i hi
  exact ⟨u,h1,h2,keep (ownsRow_block h2 fun k hk => hb.block k (h2.lt k hk).2)⟩
 have hset : ∀ i,¬ i = j→(us.set j v)[i]? = us[i]?:=fun i hi => by rw [List.getElem?_set_ne (fun e => hi e.symm)]
 have hsj : (us.set j v)[j]? = some v:=by rw [List.getElem?_set_self (by omega)]
 refine ⟨ownsRow_set hrow j (by omega) _,fun i hi => ?_,fun i h1 h2 => ?_,fun i k u u' b hi hk hu hu' hx hx' => ?_⟩
 ·by_cases e : i = j
  ·subst e
   exact ⟨v,hsj,keep (hv.mono (by omega))⟩
  ·obtain ⟨u,h1,_,h3⟩:=old i (by omega)
   exact ⟨u,by rw [hset i e]; exact h1,h3⟩
 ·rw [hset i (by omega)]; exact h.old i (by omega) h2
 ·have low : ∀ i u b,i < j→us[i]? = some u→Value.ownBlock u = some b→b < wr.heap.size:=fun i u b hi hu hx => by
   obtain ⟨y,h1,h2,_⟩:=old i hi
   rw [hu] at h1; cases h1
   exact (h2.lt b hx).2
  by_cases e1 : i = j <;> by_cases e2 : k = j
  ·omega
  ·subst e1
   rw [hsj] at hu; cases hu
   rw [hset k e2] at hu'
   have:=low k u' b (by omega) hu' hx'
   have:=(hv.lt b hx).1
   omega
  ·subst e2
   rw [hsj] at hu'; cases hu'
   rw [hset i e1] at hu
   have:=low i u b (by omega) hu hx
   have:=(hv.lt b hx').1
   omega
  ·rw [hset i e1] at hu
   rw [hset k e2] at hu'
   exact h.xx i k u u' b (by omega) (by omega) hu hu' hx hx'
theorem CFr.below {B : Nat} {w0 w w' : World} {fs : List Fm} {fv : Value} {n : Nat} {us : List Value} {j : Nat} (h : CFr B w0 w fs fv n us j) (hb : ∀ k,B ≤ k→k < w.heap.size→w'.heap[k]? = w.heap[k]?) : CFr B w0 w' fs fv n us j:=by
 refine ⟨ownsRow_block h.row fun k hk => hb k (h.row.lt k hk).1 (h.row.lt k hk).2,h.ul,fun i hi => ?_,h.old,h.rr⟩
 obtain ⟨u,h1,h2⟩:=h.new i hi
 exact ⟨u,h1,ownsRow_block h2 fun k hk => hb k (h2.lt k hk).1 (h2.lt k hk).2⟩
theorem own_of {B B2 : Nat} {w0 w1 w : World} {S : Sta} {fv cv : Value} {nf nc : Nat} {us xs : List Value} (hf : CFr B w0 w1 S.fs fv nf us nf) (hc : CCs B2 w0 w S.cs cv nc xs nc) (hnf : S.fs.length = nf) (hnc : S.cs.length = nc) (hB : B ≤ B2) (hB2 : w1.heap.size ≤ B2) (hb : ∀ k,B ≤ k→k < w1.heap.size→w.heap[k]? = w1.heap[k]?) : Own B w fv cv us xs S:=by
 have hf':=hf.below hb
 subst hnf hnc
 refine ⟨hf'.row,ownsRow_lower hc.row hB,hf.ul,hf'.new,fun i hi => ?_,fun i k u u' b hu hu' => ?_,fun i k u u' b hu hu' => ?_,fun i k u u' b hu hu' hx hx' => ?_⟩
 ·obtain ⟨u,h1,h2⟩:=hc.new i hi
  exact ⟨u,h1,h2.mono hB⟩
 ·have l1:=(List.getElem?_eq_some_iff.1 hu).1
  have l2:=(List.getElem?_eq_some_iff.1 hu').1
  have:=hf.ul
  exact hf.rr i k u u' b (by omega) (by omega) hu hu'
 ·have l1:=(List.getElem?_eq_some_iff.1 hu).1
  have l2:=(List.getElem?_eq_some_iff.1 hu').1
  have:=hc.row.1
  exact hc.xx i k u u' b (by omega) (by omega) hu hu'
 ·have l1:=(List.getElem?_eq_some_iff.1 hu).1
  have l2:=(List.getElem?_eq_some_iff.1 hu').1
  have:=hf.ul
  have:=hc.row.1
  obtain ⟨y,h1,h2⟩:=hf.new i (by omega)
  rw [hu] at h1; cases h1
  obtain ⟨z,h3,h4⟩:=hc.new k (by omega)
  rw [hu'] at h3; cases h3
  have:=(h2.lt b hx).2
  have:=(h4.lt b hx').1
  omega
theorem Own.lower {B B' : Nat} {w : World} {fv cv : Value} {rv xv : List Value} {S : Sta} (h : Own B w fv cv rv xv S) (hb : B' ≤ B) : Own B' w fv cv rv xv S:=by
 refine ⟨ownsRow_lower h.fr hb,ownsRow_lower h.ce hb,h.rl,fun i hi => ?_,fun i hi => ?_,h.rr,h.xx,h.rx⟩
 ·obtain ⟨u,h1,h2⟩:=h.regs i hi; exact ⟨u,h1,h2.mono hb⟩
 ·obtain ⟨u,h1,h2⟩:=h.cells i hi; exact ⟨u,h1,h2.mono hb⟩
structure RunAt (X B : Nat) (w : World) (pv fv cv sv : Value) (rv xv : List Value) (R : Rn) : Prop where
 box : w.heap[X]? = some (.cells #[pv,fv,cv,.int .i64 R.s.st,.int .i64 R.s.wh,sv,.bool R.paused] 78 (0,0))
 own : Own B w fv cv rv xv R.s
 sd : w.ownsRow B 3 1 sv R.said.length (R.said.map (Value.int .i64))
 hX : B ≤ X
section
variable {X B : Nat} {w w' : World} {pv fv cv sv : Value} {rv xv : List Value} {R : Rn}
theorem RunAt.lt (h : RunAt X B w pv fv cv sv rv xv R) : X < w.heap.size:=(Array.getElem?_eq_some_iff.1 h.box).1
theorem RunAt.cells (h : RunAt X B w pv fv cv sv rv xv R) : w.cell? ⟨X,0,none⟩ = some pv∧w.cell? ⟨X,1,none⟩ = some fv∧w.cell? ⟨X,2,none⟩ = some cv∧w.cell? ⟨X,3,none⟩ = some (.int .i64 R.s.st)∧w.cell? ⟨X,4,none⟩ = some (.int .i64 R.s.wh)∧w.cell? ⟨X,5,none⟩ = some sv∧w.cell? ⟨X,6,none⟩ = some (.bool R.paused)∧∀ i,w.frozen? ⟨X,i,none⟩ = false:=by
 have e : ∀ k,w.cell? ⟨X,k,none⟩ = (#[pv,fv,cv,.int .i64 R.s.st,.int .i64 R.s.wh,sv,.bool R.paused] : Array Value)[k]?:=fun k => by
  unfold World.cell?; rw [h.box]; rfl
 exact ⟨e 0,e 1,e 2,e 3,e 4,e 5,e 6,fun i => by unfold World.frozen?; rw [h.box]; simp⟩
theorem RunAt.apart (h : RunAt X B w pv fv cv sv rv xv R) {C : Nat} {e : TypeId} {size n : Nat} {v : Value} {xs : List Value} (hr : w.ownsRow C e size v n xs) (hne : ¬ e = 78) {g : Nat} (hg : v.ownBlock = some g) : ¬ g = X:=fun e2 => by
 obtain ⟨c,fz,k⟩:=Lib.ownsRow_kind hr g hg
 rw [e2,h.box] at k
 injection k with k
 injection k with _ k2 _
 exact hne k2.symm
theorem RunAt.below (h : RunAt X B w pv fv cv sv rv xv R) (hb : Below w.heap.size w w') : RunAt X B w' pv fv cv sv rv xv R :=
 ⟨by rw [hb.block X h.lt]; exact h.box,h.own.below hb,ownsRow_block h.sd fun g hg => hb.block g (h.sd.lt g hg).2,h.hX⟩
theorem RunAt.setX (h : RunAt X B w pv fv cv sv rv xv R) (hk : ∀ k,¬ k = X→w'.heap[k]? = w.heap[k]?) : Own B w' fv cv rv xv R.s∧w'.ownsRow B 3 1 sv R.said.length (R.said.map (Value.int .i64)):=by
 have go : ∀ {e size v n xs},w.ownsRow B e size v n xs→¬ e = 78→w'.ownsRow B e size v n xs:=fun hr hne => ownsRow_block hr fun g hg => hk g (h.apart hr hne hg)
 refine ⟨⟨go h.own.fr (by decide),go h.own.ce (by decide),h.own.rl,fun i hi => ?_,fun i hi => ?_,h.own.rr,h.own.xx,h.own.rx⟩,go h.sd (by decide)⟩
 ·obtain ⟨u,h1,h2⟩:=h.own.regs i hi; exact ⟨u,h1,go h2 (by decide)⟩
 ·obtain ⟨u,h1,h2⟩:=h.own.cells i hi; exact ⟨u,h1,go h2 (by decide)⟩
theorem Own.frow {S : Sta} (h : Own B w fv cv rv xv S) (hn : ¬ S.fs.length = 0) : ∃ g cap,fv = .slice (some ⟨g,0,none⟩) S.fs.length cap∧B ≤ g∧g < w.heap.size∧∀ i,w.frozen? ⟨g,i,none⟩ = false:=by
 rcases h.fr.2 with ⟨_,h0⟩ | ⟨g,cap,cur,rfl,hg,hh,_⟩
 ·exact absurd h0 hn
 ·exact ⟨g,cap,rfl,hg,(Array.getElem?_eq_some_iff.1 hh).1,fun i => by unfold World.frozen?; rw [hh]; simp⟩
theorem Own.fcells {S : Sta} {g n cap : Nat} (h : Own B w (.slice (some ⟨g,0,none⟩) n cap) cv rv xv S) {i : Nat} (hi : i < S.fs.length) : ∃ u,rv[i]? = some u∧w.cell? ⟨g,i * 4,none⟩ = some (.int .i64 (fmAt S.fs i).proc)∧w.cell? ⟨g,i * 4 + 1,none⟩ = some (.int .i64 (fmAt S.fs i).pos)∧w.cell? ⟨g,i * 4 + 2,none⟩ = some u∧w.cell? ⟨g,i * 4 + 3,none⟩ = some (.int .i64 (fmAt S.fs i).to)∧VRow B w u (fmAt S.fs i).regs:=by
 have hn : S.fs.length = n:=by
  rcases h.fr.2 with ⟨h0,_⟩ | ⟨_,_,_,hv,_⟩
  ·cases h0
  ·injection hv with _ h2 _
   exact h2.symm
 subst hn
 have hl:=flatF_len S.fs rv h.rl
 obtain ⟨u,h0,h1,h2,h3,h4⟩:=flatF_at S.fs rv h.rl i hi
 obtain ⟨u',k0,k1⟩:=h.regs i hi
 rw [h0] at k0; cases k0
 exact ⟨u,h0,(h.fr.cellAt (i * 4) (by omega)).trans h1,(h.fr.cellAt (i * 4 + 1) (by omega)).trans h2,(h.fr.cellAt (i * 4 + 2) (by omega)).trans h3,(h.fr.cellAt (i * 4 + 3) (by omega)).trans h4,k1⟩
theorem VRow.vals {L : List (Int × Int)} {g n cap : Nat} (h : VRow B w (.slice (some ⟨g,0,none⟩) n cap) L) : (∀ k,k < L.length→w.cell? ⟨g,k * 2,none⟩ = some (.int .i64 (L.getD k (0,0)).1)∧w.cell? ⟨g,k * 2 + 1,none⟩ = some (.int .i64 (L.getD k (0,0)).2))∧(∀ i,w.frozen? ⟨g,i,none⟩ = false)∧n = L.length∧B ≤ g∧g < w.heap.size:=by
 have hlen:=flatV_len L
 have hn : n = L.length:=by
  rcases h.2 with ⟨h0,_⟩ | ⟨_,_,_,hv,_⟩
  ·cases h0
  ·injection hv
 subst hn
 refine ⟨fun k hk => ?_,fun i => ?_,rfl,(h.lt g rfl).1,(h.lt g rfl).2⟩
 ·obtain ⟨f0,f1⟩:=flatV_at L k hk
  exact ⟨(World.ownsRow.cellAt h (k * 2) (by omega)).trans f0,(World.ownsRow.cellAt h (k * 2 + 1) (by omega)).trans f1⟩
 ·rcases h.2 with ⟨h0,_⟩ | ⟨g',cap',cur,hv,hg,hh,_⟩
  ·cases h0
  ·cases hv
   unfold World.frozen?; rw [hh]; simp
end
def RA (X B : Nat) (w : World) (pv : Value) (R : Rn) : Prop:=∃ fv cv sv rv xv,RunAt X B w pv fv cv sv rv xv R
theorem RA.below {X B : Nat} {w w' : World} {pv : Value} {R : Rn} (h : RA X B w pv R) (hb : Below w.heap.size w w') : RA X B w' pv R:=by
 obtain ⟨fv,cv,sv,rv,xv,h⟩:=h
 exact ⟨fv,cv,sv,rv,xv,h.below hb⟩
end Go.Proofs.YtipnjoahobplhaaGreatDoor
