/- image.read and image.Parse: the program of a text, by the program. -/
import Derived.Test.YtfaokaohhchdhaaDoorImgProc
import Derived.Test.YtfaokaohhchdhaaDoorCodeCheck
namespace Go.Proofs.YtfaokaohhchdhaaDoor
open Go.RowKit Go.Maps

def flatPc : List (Pc × Value)→List Value
 | [] => []
 | x :: l => [.int .i64 x.1.params,.int .i64 x.1.regs,x.2] ++ flatPc l

theorem flatPc_len : ∀ l,(flatPc l).length = l.length * 3
 | [] => rfl
 | x :: l => by rw [flatPc,List.length_append,flatPc_len l,List.length_cons]; simp only [List.length_cons,List.length_nil]; omega

theorem flatPc_snoc : ∀ (l : List (Pc × Value)) (x : Pc × Value),flatPc (l ++ [x]) = flatPc l ++ [.int .i64 x.1.params,.int .i64 x.1.regs,x.2]
 | [],x => by simp [flatPc]
 | y :: l,x => by rw [List.cons_append,flatPc,flatPc_snoc l x,flatPc,List.append_assoc]

theorem flatPc_at : ∀ (l : List (Pc × Value)) (i : Nat) (x : Pc × Value),l[i]? = some x→(flatPc l)[i * 3]? = some (.int .i64 x.1.params)∧(flatPc l)[i * 3 + 1]? = some (.int .i64 x.1.regs)∧(flatPc l)[i * 3 + 2]? = some x.2
 | [],i,x,h => by cases h
 | y :: l,0,x,h => by
  simp only [List.getElem?_cons_zero,Option.some.injEq] at h
  subst h
  simp [flatPc]
 | y :: l,i + 1,x,h => by
  have ih:=flatPc_at l i x (by simpa using h)
  have e : ∀ t,(flatPc (y :: l))[(i + 1) * 3 + t]? = (flatPc l)[i * 3 + t]?:=fun t => by
   rw [flatPc,List.getElem?_append_right (by simp only [List.length_cons,List.length_nil]; omega)]
   congr 1
   simp only [List.length_cons,List.length_nil]; omega
  have e0:=e 0
  simp only [Nat.add_zero] at e0
  rw [e0,e 1,e 2]
  exact ih

/-- 'v' is a row of procedures of the call's own,of blocks from C on. -/
def ProcRow (C : Nat) (w : World) (v : Value) (l : List (Pc × Value)) : Prop :=
 w.ownsRow C 58 3 v l.length (flatPc l)∧∀ x ∈ l,CodeHeap w x.2 x.1.n x.1.ins

theorem ProcRow.nil (C : Nat) (w : World) : ProcRow C w (.slice none 0 0) []:=⟨⟨rfl,Or.inl ⟨rfl,rfl⟩⟩,fun _ h => by cases h⟩
theorem ProcRow.stay {C : Nat} {w w' : World} {v : Value} {l : List (Pc × Value)} (h : ProcRow C w v l) (k : Keeps 58 w w') (k8 : Keeps 60 w w') (k3 : Keeps 3 w w') : ProcRow C w' v l :=
 ⟨own_keep h.1 k,fun x hx => (h.2 x hx).stay k8 k3⟩

theorem ProcRow.procs {C : Nat} {w : World} {v : Value} {l : List (Pc × Value)} (h : ProcRow C w v l) (hl : l.length ≤ 100000000) : ProcsAt w.heap.size w v l.length (nthP (l.map (·.1))):=by
 obtain ⟨h1,h2⟩:=h
 rcases h1.2 with ⟨rfl,h0⟩ | ⟨g,cap,cur,rfl,_,hg,_,_,_,ht⟩
 ·exact ⟨none,0,by rw [h0],by omega,Or.inl h0⟩
 ·refine ⟨_,cap,rfl,by omega,Or.inr ⟨g,0,rfl,(Array.getElem?_eq_some_iff.1 hg).1,fun i hi => ?_⟩⟩
  obtain ⟨x,hx⟩ : ∃ x,l[i]? = some x:=⟨l[i],by simp [hi]⟩
  obtain ⟨c0,c1,c2⟩:=flatPc_at l i x hx
  have e : ∀ t,t < l.length * 3→cur[t]? = (flatPc l)[t]?:=fun t htl => by
   rw [← ht,List.getElem?_take,if_pos htl,Array.getElem?_toList]
  have e2 : nthP (l.map (·.1)) i = x.1:=by unfold nthP; simp [hx]
  rw [e2]
  unfold World.cell?
  rw [hg]
  exact ⟨x.2,by rw [Nat.zero_add]; exact (e (i * 3) (by omega)).trans c0,by rw [Nat.zero_add]; exact (e (i * 3 + 1) (by omega)).trans c1,by rw [Nat.zero_add]; exact (e (i * 3 + 2) (by omega)).trans c2,(h2 x (List.mem_of_getElem? hx)).code⟩

theorem infoProc : (Tryd.prog.info? 58).map (fun i => (i.zero,i.size,i.bytes)) = some (some (.agg #[.int .i64 0,.int .i64 0,.slice none 0 0]),3,40):=by kernel_rfl

/-- A procedure more. -/
theorem append_proc {ops : Array Oper} {rest : List Oper} {o : Oper} {a : Act} {Q : Exit→Act→World→Prop} (W : World) (hgd : o.guard = none) (s y : Operand)
  (ho : o.op = .call { callee:=.builtin .append,args:=#[s,y],argTypes:=#[34,34] }) (C : Nat) (v : Value) (l : List (Pc × Value)) (x1 x2 : Int) (cb : Option Addr) (cn cc : Nat) (hs : a.eval s = v) (hown : ProcRow C W v l) (B : Nat) (hB : W.heap.size = B) (hy : a.eval y = .slice (some ⟨B,0,none⟩) 1 1) (hl : l.length ≤ 100000) (hC : C ≤ W.heap.size)
  (h : ∀ v' w2,w2.ownsRow C 58 3 v' (l.length + 1) (flatPc l ++ [.int .i64 x1,.int .i64 x2,.slice cb cn cc])→(W.alloc (.cells #[.int .i64 x1,.int .i64 x2,.slice cb cn cc] 58)).grownBy w2 v.ownBlock→wpList Tryd.prog ops Q rest (a.put o.dst v') w2) :
  wpList Tryd.prog ops Q (o :: rest) a (W.alloc (.cells #[.int .i64 x1,.int .i64 x2,.slice cb cn cc] 58)):=by
 subst hB
 obtain ⟨i0,hi,hz0,hz1,hz2⟩:=info_parts infoProc
 refine wpList_append_own _ hgd s y 34 ho C 58 i0 (.agg #[.int .i64 0,.int .i64 0,.slice none 0 0]) 3 40 Tryd.underlying34 hi hz0 hz1 hz2 rfl (by decide) v _ _ hs (own_keep hown.1 (Keeps.of (below_alloc W _))) ⟨W.heap.size,0,none⟩ 1 1 [.int .i64 x1,.int .i64 x2,.slice cb cn cc] hy rfl (fun j u hj => ?_) (fun u hu => ?_) (by unfold maxLen; omega) (by omega) (Nat.le_trans hC (below_alloc W _).size) ?_
 ·rw [WideShapes.add_plain,Nat.zero_add,World.cell?_alloc_new]
  simpa using hj
 ·simp only [List.mem_cons,List.mem_nil_iff,or_false] at hu
  rcases hu with rfl | rfl | rfl <;> rfl
 ·intro v' w2 h1 h2 _
  exact h v' w2 h1 h2

theorem ProcRow.row {C : Nat} {w : World} {v : Value} {l : List (Pc × Value)} (h : ProcRow C w v l) : ∀ g,v.ownBlock = some g→C ≤ g∧∃ cur,w.heap[g]? = some (.cells cur 58 (0,0)):=by
 intro g hg
 rcases h.1.2 with ⟨rfl,_⟩ | ⟨g',cap,cur,rfl,hC,h2,_⟩
 ·cases hg
 ·cases hg
  exact ⟨hC,cur,h2⟩

/-- What stays and what comes,where a procedure is put behind the others. -/
theorem read_step {S C : Nat} {w w3 w2 : World} {sb : ByteArray} {pv v' : Value} {l : List (Pc × Value)} {p : Pc} {cv : Value} {cs : Array Value} (hB : But S w w3) (hS : SB S w3 sb) (hrow : ProcRow C w3 pv l) (hcv : CodeHeap w3 cv p.n p.ins) (hC : w.heap.size ≤ C) (hgr : (w3.alloc (.cells cs 58)).grownBy w2 pv.ownBlock)
  (hown : w2.ownsRow C 58 3 v' (l.length + 1) (flatPc l ++ [.int .i64 p.params,.int .i64 p.regs,cv])) :
  But S w w2∧SB S w2 sb∧ProcRow C w2 v' (l ++ [(p,cv)]):=by
 have hb : Below w3.heap.size w3 (w3.alloc (.cells cs 58)):=below_alloc _ _
 have hrw:=hrow.row
 have keep : ∀ (k : Nat) (o : Obj),w3.heap[k]? = some o→(∀ c,¬ o = Obj.cells c 58 (0,0))→w2.heap[k]? = some o:=fun k o hk ho => by
  have hlt:=(Array.getElem?_eq_some_iff.1 hk).1
  rw [hgr.block k (Nat.lt_of_lt_of_le hlt hb.size) ?_,hb.block k hlt]
  ·exact hk
  ·intro e
   obtain ⟨_,cur,hc⟩:=hrw k e.symm
   rw [hc] at hk
   injection hk with hk
   exact ho cur hk.symm
 have k8 : Keeps 60 w3 w2:=fun k cur hk => keep k _ hk (fun c e => by injection e with _ e2 _; exact absurd e2 (by decide))
 have k3 : Keeps 3 w3 w2:=fun k cur hk => keep k _ hk (fun c e => by injection e with _ e2 _; exact absurd e2 (by decide))
 refine ⟨⟨hgr.os.trans (hb.os.trans hB.os),hgr.tape.trans (hb.tape.trans hB.tape),hgr.output.trans (hb.output.trans hB.output),Nat.le_trans hB.size (Nat.le_trans hb.size hgr.size),fun k hk hx => ?_⟩,keep _ _ hS (fun c e => by injection e with _ e2 _; exact absurd e2 (by decide)),?_,fun x hx => ?_⟩
 ·have hk3:=Nat.lt_of_lt_of_le hk hB.size
  rw [hgr.block k (Nat.lt_of_lt_of_le hk3 hb.size) ?_,hb.block k hk3]
  ·exact hB.block k hk hx
  ·intro e
   have:=(hrw k e.symm).1
   omega
 ·rw [List.length_append,flatPc_snoc]
  exact hown
 ·rcases List.mem_append.1 hx with hx | hx
  ·exact (hrow.2 x hx).stay k8 k3
  ·rw [List.mem_singleton] at hx
   subst hx
   exact hcv.stay k8 k3

theorem procL_short {s : List UInt8} {r : Pc × List UInt8} (h : procL s = some r) : r.2.length < s.length:=by
 have e:=congrArg List.length (procL_back h)
 have:=List.length_pos_iff.2 (pcT_ne r.1)
 rw [List.length_append] at e
 omega

/-- What image.read leaves. -/
def ReadPost (s : ByteArray) (w : World) (e : Ending) (w' : World) : Prop :=
 (readL s.data.toList.length s.data.toList = none∧e = .returned (.tuple #[.slice none 0 0,.bool false]) ∨
  ∃ L v,readL s.data.toList.length s.data.toList = some L∧e = .returned (.tuple #[v,.bool true])∧ProcsAt w'.heap.size w' v L.length (nthP L))∧Below w.heap.size w w'

theorem ReadPost.no {s : ByteArray} {w w' : World} (h : readL s.data.toList.length s.data.toList = none) (hb : Below w.heap.size w w') : ReadPost s w (.returned (.tuple #[.slice none 0 0,.bool false])) w':=⟨Or.inl ⟨h,rfl⟩,hb⟩
theorem ReadPost.yes {s : ByteArray} {w w' : World} {L : List Pc} {v : Value} (h : readL s.data.toList.length s.data.toList = some L) (hp : ProcsAt w'.heap.size w' v L.length (nthP L)) (hb : Below w.heap.size w w') : ReadPost s w (.returned (.tuple #[v,.bool true])) w':=⟨Or.inr ⟨L,v,h,rfl,hp⟩,hb⟩

set_option maxRecDepth 20000 in
set_option maxHeartbeats 4000000 in
theorem imageRead (N : Nat) (s : ByteArray) (hs : s.size ≤ 100000) (w : World) (hN : N ≤ w.heap.size) (he : NEnv N w) :
    Calls Tryd.prog 32 #[.string s] w fun e w' => ReadPost s w e w' := by
  have HE : Hid (NEnv N w) := he
  have hmf : ∀ (fn : Fn) (first cap : Array Value) (w : World), (Instr.makeFunc fn first cap).run Tryd.prog w = .ok (.func fn first cap) w := fun _ _ _ _ => rfl
  have HInit : Hid (But w.heap.size w (w.alloc (.cells #[.string s] 9)) ∧ SB w.heap.size (w.alloc (.cells #[.string s] 9)) s) := ⟨But.of (below_alloc _ _), heap_alloc_new w _⟩
  have hsw : (w.alloc (.cells #[.string s] 9)).heap.size = w.heap.size + 1 := by simp
  clear he
  go_enter Tryd.func32, Tryd.ntmps32
  go_upto_region 3 with (fail)
  generalize w.alloc (.cells #[.string s] 9) = W at *
  go_loopg [5] s.data.toList.length (fun n q wr => ∃ (sk : List UInt8) (ps : List (Pc × Value)) (u : Nat), sk.length = n ∧ (Hid (sk.length ≤ u) ∧ Hid (readL s.data.toList.length s.data.toList = (readL u sk).map fun l => ps.map (·.1) ++ l) ∧ Hid (ps.length + sk.length ≤ 100000)) ∧ Hid (But w.heap.size w wr ∧ SB w.heap.size wr (bs sk) ∧ ProcRow (w.heap.size + 1) wr q ps))
  case atStart => exact ⟨s.data.toList, [], s.data.toList.length, rfl, ⟨Nat.le_refl _, (by show _ = _; simp), (by show _ ≤ _; simpa using hs)⟩, ⟨HInit.out.1, HInit.out.2, ProcRow.nil _ _⟩⟩
  case round =>
    obtain ⟨sk, ps, u, hn, ⟨HU, HX, HLn⟩, HM⟩ := hrel
    obtain ⟨m1, m2, m3⟩ := HM.out
    have q0 := m2.cell
    have hwl := m2.lt
    by_cases hsk : sk = []
    · subst hsk
      have hem : ((bs ([] : List UInt8)).toList).isEmpty = true := by rw [ByteArray.toList_eq]; rfl
      have HR : Hid (readL s.data.toList.length s.data.toList = some (ps.map (·.1))) := by
        show _ = _
        rw [HX.out]
        cases u <;> simp [readL]
      have hpp := m3.procs (by have := HLn.out; omega)
      rw [show ps.length = (ps.map (·.1)).length by simp] at hpp
      have HPost : Hid (ReadPost s w (.returned (.tuple #[u5, .bool true])) wr) := ReadPost.yes HR.out hpp (m1.low (Nat.le_refl _) (Nat.le_refl _))
      clear m1 m2 m3 hpp
      go_wp2_with fail
      go_ret2
      exact HPost.out
    · have hem : ((bs sk).toList).isEmpty = false := by rw [ByteArray.toList_eq, bs_data]; cases sk with
        | nil => exact absurd rfl hsk
        | cons a l => rfl
      have hul : 1 ≤ u := by
        have := HU.out
        have := List.length_pos_iff.2 hsk
        omega
      obtain ⟨u', rfl⟩ : ∃ u', u = u' + 1 := ⟨u - 1, by omega⟩
      have HRp := readProc N w.heap.size (bs sk) (by have := HLn.out; have e : (bs sk).size = sk.length := by simp [bs, ByteArray.size]
                                                     omega) wr hN (HE.out.below (m1.low hN hN)) m2
      cases hP : procL sk with
      | none =>
        have HNo : Hid (readL s.data.toList.length s.data.toList = none) := by
          show _ = _
          rw [HX.out, readL, if_neg hsk, hP]; rfl
        have HC : Hid (Calls Tryd.prog 53 #[.func (.func 51) #[] #[.pointer (some ⟨w.heap.size, 0, none⟩)]] wr fun e w' => e = .returned (.tuple #[.agg #[.int .i64 0, .int .i64 0, .slice none 0 0], .bool false]) ∧ Hid (Below w.heap.size w w')) := by
          refine HRp.mono ?_
          rintro e w' ⟨⟨_, rfl⟩ | ⟨r, a, c, h, _⟩, hb⟩
          · exact ⟨rfl, (m1.trans hb).low (Nat.le_refl _) (Nat.le_refl _)⟩
          · rw [show (bs sk).data.toList = sk from rfl, hP] at h; cases h
        clear HRp m1 m2 m3 hP
        go_wp2_with (first
          | (go_at_call 53; refine HC.out.mono ?_; rintro e w3 ⟨rfl, HB3⟩))
        go_ret2
        exact ReadPost.no HNo.out (HB3.out.trans ((below_alloc w3 _).mono HB3.out.size))
      | some r =>
        have HNx : Hid (readL s.data.toList.length s.data.toList = (readL u' r.2).map fun l => ps.map (·.1) ++ r.1 :: l) := by
          show _ = _
          rw [HX.out, readL, if_neg hsk, hP]
          simp only []
          rw [Option.map_map]; rfl
        have hrl := procL_short hP
        have HC : Hid (Calls Tryd.prog 53 #[.func (.func 51) #[] #[.pointer (some ⟨w.heap.size, 0, none⟩)]] wr fun e w' => ∃ a c, e = .returned (.tuple #[.agg #[.int .i64 r.1.params, .int .i64 r.1.regs, .slice a r.1.n c], .bool true]) ∧ Hid (CodeHeap w' (.slice a r.1.n c) r.1.n r.1.ins) ∧ Hid (SB w.heap.size w' (bs r.2)) ∧ Hid (But w.heap.size w w') ∧ Hid (ProcRow (w.heap.size + 1) w' u5 ps)) := by
          refine HRp.mono ?_
          rintro e w' ⟨⟨h, _⟩ | ⟨r', a, c, h, rfl, h1, h2⟩, hb⟩
          · rw [show (bs sk).data.toList = sk from rfl, hP] at h; cases h
          · rw [show (bs sk).data.toList = sk from rfl, hP] at h
            cases h
            exact ⟨a, c, rfl, h1, h2, m1.trans hb, m3.stay (Keeps.but hb m2 (by decide)) (Keeps.but hb m2 (by decide)) (Keeps.but hb m2 (by decide))⟩
        have hpl : ps.length ≤ 100000 := by have := HLn.out; omega
        have HStep : Hid (∀ (w3 w2 : World) (a : Option Addr) (c : Nat) (v' : Value) (o : Obj) (cs : Array Value), CodeHeap w3 (.slice a r.1.n c) r.1.n r.1.ins → SB w.heap.size w3 (bs r.2) → But w.heap.size w w3 → ProcRow (w.heap.size + 1) w3 u5 ps → ((w3.alloc o).alloc (.cells cs 58)).grownBy w2 u5.ownBlock → w2.ownsRow (w.heap.size + 1) 58 3 v' (ps.length + 1) (flatPc ps ++ [.int .i64 r.1.params, .int .i64 r.1.regs, .slice a r.1.n c]) →
            But w.heap.size w w2 ∧ SB w.heap.size w2 (bs r.2) ∧ ProcRow (w.heap.size + 1) w2 v' (ps ++ [(r.1, .slice a r.1.n c)])) := fun w3 w2 a c v' o cs h1 h2 h3 h4 h5 h6 => by
          have hb := below_alloc w3 o
          exact read_step (h3.trans (But.of hb)) (h2.keep hb) (h4.stay (Keeps.of hb) (Keeps.of hb) (Keeps.of hb)) (h1.stay (Keeps.of hb) (Keeps.of hb)) (by omega) h5 h6
        have HLen2 : Hid (r.2.length ≤ u') := (by show _ ≤ _; have := HU.out; omega)
        have HLn2 : Hid (ps.length + 1 + r.2.length ≤ 100000) := (by show _ ≤ _; have := HLn.out; omega)
        have hwr3 : w.heap.size + 1 ≤ wr.heap.size := by omega
        obtain ⟨⟨pm, rg, cn, ins⟩, rk⟩ := r
        dsimp only at *
        clear HRp m1 m2 m3 hP
        go_wp2_with (first
          | (go_at_call 53; refine HC.out.mono ?_; rintro e w3 ⟨ca, cc, rfl, HC3, HS3, HB3, HP3⟩; have hw3 : w.heap.size + 1 ≤ w3.heap.size := HS3.out.lt)
          | (at_builtin; refine append_proc _ rfl _ _ rfl (w.heap.size + 1) u5 ps pm rg ca cn cc rfl (HP3.out.stay (Keeps.of (below_alloc _ _)) (Keeps.of (below_alloc _ _)) (Keeps.of (below_alloc _ _))) _ (by simp) rfl hpl (Nat.le_trans hw3 (below_alloc _ _).size) ?_; intro v4 w4 hO4 hG4; have HF4 := HStep.out w3 w4 ca cc v4 _ _ HC3.out HS3.out HB3.out HP3.out hG4 hO4; clear hO4 hG4))
        have HF5 : Hid (But w.heap.size w w4 ∧ SB w.heap.size w4 (bs rk) ∧ ProcRow (w.heap.size + 1) w4 v4 (ps ++ [(⟨pm, rg, cn, ins⟩, .slice ca cn cc)])) := HF4
        go_roundg rk.length
        case rel =>
          refine ⟨rk, ps ++ [(⟨pm, rg, cn, ins⟩, .slice ca cn cc)], u', rfl, ⟨HLen2, ?_, ?_⟩, HF5⟩
          · show _ = _
            rw [HNx.out]
            congr 1
            funext l
            simp
          · show _ ≤ _
            rw [List.length_append]
            exact HLn2.out
        case measure => omega

/-- What image.Parse hands back: an error,and the procedures. -/
def parseErr (s : List UInt8) : Int:=if 60000 < s.length then 2 else match readL s.length s with
 | none => 1
 | some L => codeErr L.length (nthP L)

def ParsePost (s : ByteArray) (w : World) (e : Ending) (w' : World) : Prop :=
 (¬ parseErr s.data.toList = 0∧e = .returned (.tuple #[.slice none 0 0,.int .i64 (parseErr s.data.toList)]) ∨
  ∃ L v,parseErr s.data.toList = 0∧readL s.data.toList.length s.data.toList = some L∧codeErr L.length (nthP L) = 0∧e = .returned (.tuple #[v,.int .i64 0])∧ProcsAt w'.heap.size w' v L.length (nthP L))∧Below w.heap.size w w'

theorem ParsePost.no {s : ByteArray} {w w' : World} {x : Int} (h : parseErr s.data.toList = x) (h0 : ¬ x = 0) (hb : Below w.heap.size w w') : ParsePost s w (.returned (.tuple #[.slice none 0 0,.int .i64 x])) w':=by
 subst h
 exact ⟨Or.inl ⟨h0,rfl⟩,hb⟩
theorem ParsePost.yes {s : ByteArray} {w w' : World} {L : List Pc} {v : Value} (h : parseErr s.data.toList = 0) (h1 : readL s.data.toList.length s.data.toList = some L) (h2 : codeErr L.length (nthP L) = 0) (hp : ProcsAt w'.heap.size w' v L.length (nthP L)) (hb : Below w.heap.size w w') : ParsePost s w (.returned (.tuple #[v,.int .i64 0])) w':=⟨Or.inr ⟨L,v,h,h1,h2,rfl,hp⟩,hb⟩

theorem ProcsAt.up {N M : Nat} {w : World} {v : Value} {np : Nat} {P : Nat→Pc} (h : ProcsAt N w v np P) (hm : N ≤ M) : ProcsAt M w v np P:=by
 obtain ⟨a,cap,rfl,hn,h | ⟨b,o,rfl,hlt,hc⟩⟩:=h
 ·exact ⟨a,cap,rfl,hn,Or.inl h⟩
 ·refine ⟨_,cap,rfl,hn,Or.inr ⟨b,o,rfl,by omega,fun i hi => ?_⟩⟩
  obtain ⟨vc,c0,c1,c2,ac,cc,rfl,hn2,h | ⟨b2,o2,rfl,hl2,hc2⟩⟩:=hc i hi
  ·exact ⟨_,c0,c1,c2,ac,cc,rfl,hn2,Or.inl h⟩
  ·refine ⟨_,c0,c1,c2,_,cc,rfl,hn2,Or.inr ⟨b2,o2,rfl,by omega,fun j hj => ?_⟩⟩
   obtain ⟨va,d0,d1,d2,d3,d4,aa,ca,rfl,hn3,h | ⟨b3,o3,rfl,hl3,hc3⟩⟩:=hc2 j hj
   ·exact ⟨_,d0,d1,d2,d3,d4,aa,ca,rfl,hn3,Or.inl h⟩
   ·exact ⟨_,d0,d1,d2,d3,d4,_,ca,rfl,hn3,Or.inr ⟨b3,o3,rfl,by omega,hc3⟩⟩

set_option maxHeartbeats 2000000 in
/-- image.Parse. -/
theorem imageParse (N : Nat) (s : ByteArray) (hsz : s.size ≤ 9223372036854775807) (w : World) (hN : N ≤ w.heap.size) (he : NEnv N w) :
  Calls Tryd.prog 15 #[.string s] w fun e w' => ParsePost s w e w':=by
 have hlen : s.data.toList.length = s.size:=by simp
 by_cases hb : 60000 < s.size
 ·have HE : Hid (parseErr s.data.toList = 2):=by show _ = _; unfold parseErr; rw [if_pos (by omega)]
  have hbi : (s.size : Int) > 60000:=by omega
  clear he hlen
  go_enter Tryd.func15,Tryd.ntmps15
  go_wp2_with fail
  go_ret2
  exact ParsePost.no HE.out (by decide) (Below.refl _ _)
 have hbi : ¬ (s.size : Int) > 60000:=by omega
 have HRd:=imageRead N s (by omega) w hN he
 have HPE : Hid (parseErr s.data.toList = match readL s.data.toList.length s.data.toList with
   | none => 1
   | some L => codeErr L.length (nthP L)):=by
  show _ = _
  unfold parseErr; rw [if_neg (by omega)]
 cases hr : readL s.data.toList.length s.data.toList with
 | none =>
  have HE : Hid (parseErr s.data.toList = 1):=by show _ = _; rw [HPE.out,hr]
  have HC : Hid (Calls Tryd.prog 32 #[.string s] w fun e w' => e = .returned (.tuple #[.slice none 0 0,.bool false])∧Below w.heap.size w w'):=by
   refine HRd.mono ?_
   rintro e w' ⟨⟨_,rfl⟩ | ⟨L,v,h,_⟩,hb⟩
   ·exact ⟨rfl,hb⟩
   ·rw [hr] at h; cases h
  clear he hlen HRd HPE hr
  go_enter Tryd.func15,Tryd.ntmps15
  go_wp2_with (first | (go_at_call 32; refine HC.out.mono ?_; rintro e w1 ⟨rfl,b1⟩))
  go_ret2
  exact ParsePost.no HE.out (by decide) b1
 | some L =>
  have HE : Hid (parseErr s.data.toList = codeErr L.length (nthP L)):=by show _ = _; rw [HPE.out,hr]
  have HR : Hid (readL s.data.toList.length s.data.toList = some L):=hr
  have HC : Hid (Calls Tryd.prog 32 #[.string s] w fun e w' => ∃ a c,e = .returned (.tuple #[.slice a L.length c,.bool true])∧Hid (ProcsAt w'.heap.size w' (.slice a L.length c) L.length (nthP L))∧Below w.heap.size w w'):=by
   refine HRd.mono ?_
   rintro e w' ⟨⟨h,_⟩ | ⟨L',v,h,rfl,hp⟩,hb⟩
   ·rw [hr] at h; cases h
   ·rw [hr] at h
    cases h
    obtain ⟨a,c,rfl,_⟩:=hp.shape
    exact ⟨a,c,rfl,hp,hb⟩
  clear he hlen HRd HPE hr
  by_cases hc : codeErr L.length (nthP L) = 0
  ·have HCk : Hid (∀ (w1 : World) (v : Value),ProcsAt w1.heap.size w1 v L.length (nthP L)→Calls Tryd.prog 30 #[v] w1 fun e w' => e = .returned (.int .i64 0)∧Below w1.heap.size w1 w'):=fun w1 v hp => by
    have:=codeCheck w1.heap.size v L.length (nthP L) w1 (Nat.le_refl _) hp
    rw [hc] at this
    exact this
   have HZ : Hid (codeErr L.length (nthP L) = 0):=hc
   clear hc
   go_enter Tryd.func15,Tryd.ntmps15
   go_wp2_with (first
    | (go_at_call 32; refine HC.out.mono ?_; rintro e w1 ⟨a,c,rfl,HP1,b1⟩)
    | (go_at_call 30; refine (HCk.out _ _ HP1.out).mono ?_; rintro e w2 ⟨rfl,b2⟩))
   go_ret2
   exact ParsePost.yes (HE.out.trans HZ.out) HR.out HZ.out ((HP1.out.below b2).up b2.size) (below_step b1 b2)
  ·have HCk : Hid (∀ (w1 : World) (v : Value),ProcsAt w1.heap.size w1 v L.length (nthP L)→Calls Tryd.prog 30 #[v] w1 fun e w' => e = .returned (.int .i64 (codeErr L.length (nthP L)))∧Below w1.heap.size w1 w'):=fun w1 v hp => codeCheck w1.heap.size v L.length (nthP L) w1 (Nat.le_refl _) hp
   have hne : (codeErr L.length (nthP L) != 0) = true:=by simp [hc]
   have HNz : Hid (¬ codeErr L.length (nthP L) = 0):=hc
   clear hc
   go_enter Tryd.func15,Tryd.ntmps15
   go_wp2_with (first
    | (go_at_call 32; refine HC.out.mono ?_; rintro e w1 ⟨a,c,rfl,HP1,b1⟩)
    | (go_at_call 30; refine (HCk.out _ _ HP1.out).mono ?_; rintro e w2 ⟨rfl,b2⟩))
   go_ret2
   exact ParsePost.no HE.out HNz.out (below_step b1 b2)

end Go.Proofs.YtfaokaohhchdhaaDoor
