/- image.Print: the text of a right program, by the program. -/
import Derived.Test.YtfaokaohhchdhaaDoorImgLine
import Derived.Test.YtfaokaohhchdhaaDoorCodeCheck
import Derived.Lib.BufferRead
import Derived.Lib.AppendZeros
namespace Go.Proofs.YtfaokaohhchdhaaDoor
open Go.RowKit Go.Maps

theorem lnT_len {zs : List Int} (h : ∀ z ∈ zs,i64 z) : (lnT zs).length≤22 * zs.length + 1:=by
 unfold lnT
 rw [List.length_append,← lnTo_all]
 have:=lnTo_len h zs.length (Nat.le_refl _)
 simp only [List.length_cons,List.length_nil]; omega

theorem catB_len {f : Nat→List UInt8} {c : Nat} : ∀ (m i : Nat),(∀ k,k < m→(f (i + k)).length≤c)→(catB f i m).length≤m * c
 | 0,_,_ => by simp [catB]
 | m + 1,i,h => by
  have h0:=h 0 (by omega)
  have ih:=catB_len m (i + 1) fun k hk => by have:=h (k + 1) (by omega); rw [show i + (k + 1)=i + 1 + k by omega] at this; exact this
  rw [catB,List.length_append,Nat.succ_mul]
  simp only [Nat.add_zero] at h0
  omega

theorem insZs_len (i : In) : (insZs i).length=4 + i.n:=by simp [insZs]; omega

theorem code_line {np : Nat} {P : Nat→Pc} (h : codeErr np P=0) {j k : Nat} (hj : j < np) (hk : k < (P j).n) : (lnT (insZs ((P j).ins k))).length≤155:=by
 have h1:=lnT_len (code_i64 h hj hk)
 have h2:=(code_ins h hj hk).2.1
 rw [insZs_len] at h1
 omega

theorem head_i64 {np : Nat} {P : Nat→Pc} (h : codeErr np P=0) {j : Nat} (hj : j < np) : ∀ z ∈ headZs (P j),i64 z:=by
 obtain ⟨h1,h2,h3,h4⟩:=code_zero h
 obtain ⟨a,b,c,d⟩:=pcErr_zero (h3 j hj)
 intro z hz
 simp only [headZs,List.mem_cons,List.mem_nil_iff,or_false] at hz
 unfold i64
 rcases hz with rfl | rfl | rfl <;> omega

theorem proc_len {np : Nat} {P : Nat→Pc} (h : codeErr np P=0) {j : Nat} (hj : j < np) {m : Nat} (hm : m≤(P j).n) : (lnT (headZs (P j)) ++ codeT (P j).ins m).length≤400000:=by
 obtain ⟨h1,h2,h3,h4⟩:=code_zero h
 obtain ⟨a,b,c,d⟩:=pcErr_zero (h3 j hj)
 have e1:=lnT_len (head_i64 h hj)
 have e2:=catB_len (f:=fun k => lnT (insZs ((P j).ins k))) (c:=155) m 0 fun k hk => by rw [Nat.zero_add]; exact code_line h hj (by omega)
 have e3 : (headZs (P j)).length=3:=rfl
 rw [List.length_append]
 unfold codeT
 omega

theorem prog_len {np : Nat} {P : Nat→Pc} (h : codeErr np P=0) {j : Nat} (hj : j≤np) : (progT P j).length≤1600000:=by
 obtain ⟨h1,h2,h3,h4⟩:=code_zero h
 have e2:=catB_len (f:=fun k => pcT (P k)) (c:=400000) j 0 fun k hk => by rw [Nat.zero_add]; exact proc_len h (by omega) (Nat.le_refl _)
 unfold progT
 omega

/-- A new block of numbers. -/
theorem is_made (W : World) (zs : List Int) (n : Nat) (hn : zs.length=n) (hl : n≤1000) : IS 0 (W.alloc (.cells (zs.map (Value.int .i64)).toArray 3)) (.slice (some ⟨W.heap.size,0,none⟩) n n) zs:=by
 subst hn
 refine ⟨by simp,Or.inr ⟨W.heap.size,zs.length,_,rfl,Nat.zero_le _,heap_alloc_new W _,Nat.le_refl _,by unfold maxLen; omega,by simp,?_⟩⟩
 rw [Nat.mul_one]
 exact List.take_of_length_le (by simp)

/-- Numbers of memory behind a new row of four. -/
theorem append_args {ops : Array Oper} {rest : List Oper} {o : Oper} {a : Act} {Q : Exit→Act→World→Prop} (W : World) (hgd : o.guard=none) (s y : Operand)
  (ho : o.op=.call { callee:=.builtin .append,args:=#[s,y],argTypes:=#[22,22] }) (x1 x2 x3 x4 : Int) (B : Nat) (hB : W.heap.size=B) (hs : a.eval s=.slice (some ⟨B,0,none⟩) 4 4)
  (N : Nat) (hN : N≤W.heap.size) (x : Option Addr) (n c : Nat) (z : Nat→Int) (hy : a.eval y=.slice x n c) (hnv : NumsAt N W (.slice x n c) n z) (hn : n≤1000)
  (h : ∀ v' w2,IS 0 w2 v' (x1 :: x2 :: x3 :: x4 :: (List.range n).map z)→Below W.heap.size W w2→wpList Tryd.prog ops Q rest (a.put o.dst v') w2) :
  wpList Tryd.prog ops Q (o :: rest) a (W.alloc (.cells #[.int .i64 x1,.int .i64 x2,.int .i64 x3,.int .i64 x4] 3)):=by
 subst hB
 obtain ⟨i0,hi,hz0,hz1,hz2⟩:=info_parts info3i
 have hk : Below W.heap.size W (W.alloc (.cells #[.int .i64 x1,.int .i64 x2,.int .i64 x3,.int .i64 x4] 3)):=below_alloc _ _
 have hown : IS 0 (W.alloc (.cells #[.int .i64 x1,.int .i64 x2,.int .i64 x3,.int .i64 x4] 3)) (.slice (some ⟨W.heap.size,0,none⟩) 4 4) [x1,x2,x3,x4]:=is_made W [x1,x2,x3,x4] 4 rfl (by omega)
 obtain ⟨a',cap',e,hn1,hc⟩:=hnv
 cases e
 cases x with
 | none =>
  have hn0 : n=0:=by
   rcases hc with h | ⟨b,o,h,_⟩
   ·exact h
   ·cases h
  subst hn0
  refine Lib.wpList_append_run _ hgd s y 22 22 ho _ _ hs hy (.slice (some ⟨W.heap.size,0,none⟩) 4 4) (W.alloc (.cells #[.int .i64 x1,.int .i64 x2,.int .i64 x3,.int .i64 x4] 3)) ?_ (h _ _ hown hk)
  simp [Builtin.append_,run_underlying Tryd.underlying22,sizeOf,typeInfo,hi,Builtin.lenOf,Builtin.firstCells,storeCells]
 | some ad =>
  have hcell : ∀ j u,((List.range n).map fun k => Value.int .i64 (z k))[j]?=some u→(W.alloc (.cells #[.int .i64 x1,.int .i64 x2,.int .i64 x3,.int .i64 x4] 3)).cell? (ad.add j)=some u:=by
   intro j u hj
   have hjn : j < n:=by have:=(List.getElem?_eq_some_iff.1 hj).1; simpa using this
   rcases hc with h | ⟨b,o,h,hb,hcc⟩
   ·omega
   ·cases h
    rw [WideShapes.add_plain,hk.cell (p:=⟨b,o + j,none⟩) (Nat.lt_of_lt_of_le hb hN),hcc j hjn]
    simpa [hjn] using hj
  refine wpList_append_own_at _ hgd s y 22 ho 0 3 i0 (.int .i64 0) 1 8 Tryd.underlying22 hi hz0 hz1 hz2 rfl (by decide) _ _ _ hs hown ad n c ((List.range n).map fun k => Value.int .i64 (z k)) hy (by simp) hcell (fun u hu => by obtain ⟨k,_,rfl⟩:=List.mem_map.1 hu; rfl) (by unfold maxLen; simp only [List.length_cons,List.length_nil]; omega) (by simp only [List.length_cons,List.length_nil]; omega) (Nat.zero_le _) ?_
  intro v' w2 h1 h2 _ _
  refine h v' w2 ?_ (hk.grown h2 hk.size (fun k hk => by cases hk; exact Nat.le_refl _))
  unfold IS
  have e1 : (x1 :: x2 :: x3 :: x4 :: (List.range n).map z).length=[x1,x2,x3,x4].length + n:=by simp; omega
  have e2 : (x1 :: x2 :: x3 :: x4 :: (List.range n).map z).map (Value.int .i64)=[x1,x2,x3,x4].map (Value.int .i64) ++ (List.range n).map fun k => Value.int .i64 (z k):=by simp [Function.comp_def]
  rw [e1,e2]
  exact h1

/-- A row of bytes as a string. -/
theorem bytes_string {B : Nat} {w : World} {v : Value} {l : List UInt8} (h : BS B w v l) : (convert 40 9 v).run Tryd.prog w=.ok (.string (bs l)) w:=by
 rcases h.2 with ⟨rfl,h0⟩ | ⟨g,cap,cur,rfl,_,hg,_,_,_,ht⟩
 ·obtain rfl:=List.length_eq_zero_iff.1 h0
  exact Lib.run_convert_nil_bytes w 40 9 5 0 Tryd.underlying40 Tryd.underlying5 Tryd.underlying9
 ·rw [Nat.mul_one] at ht
  exact run_convert_bytes_back w 40 9 5 _ cap l Tryd.underlying40 Tryd.underlying5 Tryd.underlying9 (Lib.bytes_of_row hg ht)

def printL (np : Nat) (P : Nat→Pc) : List UInt8:=if codeErr np P=0 then progT P np else []

set_option maxRecDepth 20000 in
set_option maxHeartbeats 4000000 in
/-- image.Print. -/
theorem imagePrint (N : Nat) (vp : Value) (np : Nat) (P : Nat→Pc) (w : World) (hN : N≤w.heap.size) (he : NEnv N w) (hp : ProcsAt N w vp np P) :
  Calls Tryd.prog 14 #[vp] w fun e w' => e=.returned (.tuple #[.string (bs (printL np P)),.int .i64 (codeErr np P)])∧Below w.heap.size w w':=by
 have HCk : Hid (Calls Tryd.prog 30 #[vp] w fun e w' => e=.returned (.int .i64 (codeErr np P))∧Below w.heap.size w w'):=codeCheck N vp np P w hN hp
 have HP : Hid (ProcsAt N w vp np P):=hp
 have HE : Hid (NEnv N w):=he
 obtain ⟨ap,cp,rfl,hnp,hp⟩:=hp
 by_cases hc : codeErr np P=0
 ·obtain ⟨n1,n4,hpc,_⟩:=code_zero hc
  have HPr : Hid (printL np P=progT P np):=by show _=_; unfold printL; rw [if_pos hc]
  have HC : Hid (codeErr np P=0):=hc
  rw [hc] at HCk ⊢
  obtain ⟨pb,po,rfl,hpb,hp⟩ : ∃ b o,ap=some ⟨b,o,none⟩∧b < N∧∀ i,i < np→∃ vc,w.cell? ⟨b,o + i * 3,none⟩=some (.int .i64 (P i).params)∧w.cell? ⟨b,o + i * 3 + 1,none⟩=some (.int .i64 (P i).regs)∧w.cell? ⟨b,o + i * 3 + 2,none⟩=some vc∧CodeAt N w vc (P i).n (P i).ins:=by
   rcases hp with h | h
   ·omega
   ·exact h
  have HPC : Hid (∀ wi,Below w.heap.size w wi→∀ i,i < np→∃ vc,wi.cell? ⟨pb,po + i * 3,none⟩=some (.int .i64 (P i).params)∧wi.cell? ⟨pb,po + i * 3 + 1,none⟩=some (.int .i64 (P i).regs)∧wi.cell? ⟨pb,po + i * 3 + 2,none⟩=some vc∧Hid (CodeAt N w vc (P i).n (P i).ins)):=fun wi hb i hi => by
   obtain ⟨vc,c0,c1,c2,hv⟩:=hp i hi
   have hlt : pb < w.heap.size:=by omega
   exact ⟨vc,by rw [hb.cell hlt]; exact c0,by rw [hb.cell hlt]; exact c1,by rw [hb.cell hlt]; exact c2,hv⟩
  have HNs : Hid (∀ j,j < np→1≤(P j).n∧(P j).n≤2000):=fun j hj => (pcErr_fits (hpc j hj)).2
  clear hp hc he hpc
  go_enter Tryd.func14,Tryd.ntmps14
  go_upto_region 6 with (first
   | (go_at_call 30; refine HCk.out.mono ?_; rintro e w0 ⟨rfl,b0⟩))
  have HB0 : Hid (Below w.heap.size w w0):=b0
  clear b0 HCk
  go_loopw [5,17] (fun q i wr => ∃ k : Nat,k≤np∧i=.int .i64 k∧Hid (BS w.heap.size wr q (progT P k))∧Hid (Below w.heap.size w wr)) (fun _ i _ => np - (intOf i).toNat)
  case atStart => exact ⟨0,by omega,rfl,BS.nil _ _,HB0⟩
  case round =>
   obtain ⟨k,hk0,rfl,HW,HB⟩:=hrel
   have hsz:=HB.out.size
   have hpw : pb < wr.heap.size:=by omega
   by_cases hk : k < np
   ·obtain ⟨vc,c0,c1,c2,HV⟩:=HPC.out wr HB.out k hk
    obtain ⟨av,cv,rfl,hcn⟩:=HV.out.shape
    have hki : (k : Int) < (np : Int):=by omega
    obtain ⟨hn1,hn2⟩:=HNs.out k hk
    have HLine : Hid (∀ (W : World) (X : Nat),W.heap.size=X→Below wr.heap.size wr W→Calls Tryd.prog 31 #[u5,.slice (some ⟨X,0,none⟩) 3 3] (W.alloc (.cells #[.int .i64 (P k).params,.int .i64 (P k).regs,.int .i64 (P k).n] 3)) fun e w' => ∃ v',e=.returned v'∧Hid (BS w.heap.size w' v' (progT P k ++ lnT (headZs (P k))))∧Hid (KB w.heap.size (W.alloc (.cells #[.int .i64 (P k).params,.int .i64 (P k).regs,.int .i64 (P k).n] 3)) w'))  :=fun W X hX hbW => by
     subst hX
     have hbA:=below_step hbW (below_alloc W (.cells #[.int .i64 (P k).params,.int .i64 (P k).regs,.int .i64 (P k).n] 3))
     exact addLine N w.heap.size 0 hN _ _ _ (headZs (P k)) _ (Nat.le_trans hsz hbA.size) (HE.out.below ((HB.out.trans (hbA.mono hsz)).mono hN)) (HW.out.keep hbA) (is_made W (headZs (P k)) 3 rfl (by omega)) (head_i64 HC.out hk) (by have:=prog_len HC.out (j:=k) (by omega); omega) (by show 3≤1000; omega)
    have HBX : Hid (∀ w1,KB w.heap.size ((wr.alloc (.cells #[.int .i64 (P k).params,.int .i64 (P k).regs,.slice av (P k).n cv] 58)).alloc (.cells #[.int .i64 (P k).params,.int .i64 (P k).regs,.int .i64 (P k).n] 3)) w1→w1.cell? ⟨wr.heap.size,2,none⟩=some (.slice av (P k).n cv)):=fun w1 hkb => by
     have hblk : ((wr.alloc (.cells #[.int .i64 (P k).params,.int .i64 (P k).regs,.slice av (P k).n cv] 58)).alloc (.cells #[.int .i64 (P k).params,.int .i64 (P k).regs,.int .i64 (P k).n] 3)).heap[wr.heap.size]?=some (.cells #[.int .i64 (P k).params,.int .i64 (P k).regs,.slice av (P k).n cv] 58):=by
      rw [(below_alloc (wr.alloc (.cells #[.int .i64 (P k).params,.int .i64 (P k).regs,.slice av (P k).n cv] 58)) _).block wr.heap.size (by simp)]
      exact heap_alloc_new wr _
     have:=hkb.2 wr.heap.size _ hblk (by simp) (fun c fz e => by injection e with _ e2 _; exact absurd e2 (by decide))
     unfold World.cell?
     rw [this]; rfl
    have HBW : Hid (∀ w1,KB w.heap.size ((wr.alloc (.cells #[.int .i64 (P k).params,.int .i64 (P k).regs,.slice av (P k).n cv] 58)).alloc (.cells #[.int .i64 (P k).params,.int .i64 (P k).regs,.int .i64 (P k).n] 3)) w1→Below w.heap.size w w1):=fun w1 hkb =>
     (HB.out.trans ((below_step (below_alloc wr _) (below_alloc _ _)).mono hsz)).trans hkb.1
    go_upto_region 10 with (first
     | (go_at_call 31; refine (HLine.out _ _ (by simp) (below_alloc _ _)).mono ?_; rintro e w2 ⟨v2,rfl,HW2,HK2⟩; have x2:=HBX.out _ HK2.out))
    have HB2 : Hid (Below w.heap.size w w2):=HBW.out _ HK2.out
    have HT0 : Hid (progT P k ++ lnT (headZs (P k))=progT P k ++ (lnT (headZs (P k)) ++ codeT (P k).ins 0)):=by show _=_; unfold codeT; rw [catB,List.append_nil]
    clear HLine HBX HBW HK2 x2
    go_loopw [5,34] (fun q i wr => ∃ j : Nat,j≤(P k).n∧i=.int .i64 j∧Hid (BS w.heap.size wr q (progT P k ++ (lnT (headZs (P k)) ++ codeT (P k).ins j)))∧Hid (Below w.heap.size w wr)) (fun _ i _ => (P k).n - (intOf i).toNat)
    case atStart => exact ⟨0,by omega,rfl,(by show BS _ _ _ _; rw [← HT0.out]; exact HW2.out),HB2⟩
    case round =>
     clear c0 c1 c2 hsz hpw HW HT0 HW2
     obtain ⟨j,hj0,rfl,HW,HB3⟩:=hrel
     have hsz:=HB3.out.size
     by_cases hj : j < (P k).n
     ·obtain ⟨cb,co,e1,hcb,hcc⟩ : ∃ b o,av=some ⟨b,o,none⟩∧b < N∧∀ i,i < (P k).n→∃ va,wr.cell? ⟨b,o + i * 5,none⟩=some (.int .i64 ((P k).ins i).op)∧wr.cell? ⟨b,o + i * 5 + 1,none⟩=some (.int .i64 ((P k).ins i).a)∧wr.cell? ⟨b,o + i * 5 + 2,none⟩=some (.int .i64 ((P k).ins i).b) ∧
        wr.cell? ⟨b,o + i * 5 + 3,none⟩=some (.int .i64 ((P k).ins i).c)∧wr.cell? ⟨b,o + i * 5 + 4,none⟩=some va∧NumsAt N wr va ((P k).ins i).n ((P k).ins i).z:=by
       obtain ⟨a',c',e,_,h | h⟩:=HV.out.below (HB3.out.mono hN)
       ·omega
       ·cases e; exact h
      subst e1
      obtain ⟨va,y0,y1,y2,y3,y4,hva⟩:=hcc j hj
      have HVA : Hid (NumsAt N wr va ((P k).ins j).n ((P k).ins j).z):=hva
      obtain ⟨xa,ca,rfl,_⟩:=hva.shape
      have hcw : cb < wr.heap.size:=by omega
      have hji : (j : Int) < ((P k).n : Int):=by omega
      have hal : ((P k).ins j).n≤1000:=by have:=(code_ins HC.out hk hj).2.1; omega
      have HLine : Hid (∀ (W : World) (nv : Value),Below wr.heap.size wr W→IS 0 W nv (insZs ((P k).ins j))→Calls Tryd.prog 31 #[u5,nv] W fun e w' => ∃ v',e=.returned v'∧Hid (BS w.heap.size w' v' ((progT P k ++ (lnT (headZs (P k)) ++ codeT (P k).ins j)) ++ lnT (insZs ((P k).ins j))))∧Hid (KB w.heap.size W w')):=fun W nv hbW hnv => by
       refine addLine N w.heap.size 0 hN _ _ _ (insZs ((P k).ins j)) _ (Nat.le_trans hsz hbW.size) (HE.out.below ((HB3.out.trans (hbW.mono hsz)).mono hN)) (HW.out.keep hbW) hnv (code_i64 HC.out hk hj) ?_ (by rw [insZs_len]; have:=(code_ins HC.out hk hj).2.1; omega)
       have e1:=prog_len HC.out (j:=k) (by omega)
       have e2:=proc_len HC.out hk (m:=j) (by omega)
       rw [List.length_append]; omega
      have HT1 : Hid ((progT P k ++ (lnT (headZs (P k)) ++ codeT (P k).ins j)) ++ lnT (insZs ((P k).ins j))=progT P k ++ (lnT (headZs (P k)) ++ codeT (P k).ins (j + 1))):=by
       show _=_
       unfold codeT
       rw [catB_snoc,Nat.zero_add,List.append_assoc,List.append_assoc]
      clear hcc hva
      go_wp2_with (first
       | (at_builtin; refine append_args _ rfl _ _ rfl _ _ _ _ _ (by simp) rfl N (Nat.le_trans (Nat.le_trans hN hsz) (below_alloc _ _).size) _ _ _ _ rfl (HVA.out.below ((below_alloc _ _).mono (Nat.le_trans hN hsz))) hal ?_; intro v3 w3 hI3 hB3; have HL3:=HLine.out w3 v3 (below_step (below_alloc _ _) hB3) hI3; have HB4 : Hid (Below wr.heap.size wr w3):=below_step (below_alloc _ _) hB3; clear hI3 hB3)
       | (go_at_call 31; refine HL3.mono ?_; rintro e w4 ⟨v4,rfl,HW4,HK4⟩))
      go_roundw
      case rel => exact ⟨j + 1,by omega,by go_num,(by show BS _ _ _ _; rw [← HT1.out]; exact HW4.out),(HB3.out.trans (HB4.out.mono hsz)).trans HK4.out.1⟩
      case measure => simp [intOf]; omega
     ·obtain rfl : j=(P k).n:=by omega
      have HT1 : Hid (progT P k ++ (lnT (headZs (P k)) ++ codeT (P k).ins (P k).n)=progT P (k + 1)):=by
       show _=_
       unfold progT
       rw [catB_snoc,Nat.zero_add]
       rfl
      go_wp2_with fail
      go_roundw
      case rel => exact ⟨k + 1,by omega,by go_num,(by show BS _ _ _ _; rw [← HT1.out]; exact HW.out),HB3⟩
      case measure => simp [intOf]; omega
   ·obtain rfl : k=np:=by omega
    have hcv:=bytes_string HW.out
    obtain ⟨a5,c5,e5⟩:=HW.out.shape
    subst e5
    go_wp2_with fail
    go_ret2
    refine ⟨?_,HB.out⟩
    rw [HPr.out]
    rfl
 ·have hne : (codeErr np P != 0)=true:=by simp [hc]
  have HPr : Hid (printL np P=[]):=by show _=_; unfold printL; rw [if_neg hc]
  clear hp hc he
  go_enter Tryd.func14,Tryd.ntmps14
  go_wp2_with (first
   | (go_at_call 30; refine HCk.out.mono ?_; rintro e w0 ⟨rfl,b0⟩))
  go_ret2
  exact ⟨by rw [HPr.out]; rfl,b0⟩

end Go.Proofs.YtfaokaohhchdhaaDoor
