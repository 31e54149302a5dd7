/- How many words a right program has, and how long they are. No Go in it. -/
import Derived.Test.YtfaokaohhchdhaaGreatDoorPart32
import Derived.Lib.ItoaLen
import Derived.Test.YtfaokaohhchdhaaGreatDoorPart33
namespace Go.Proofs.YtfaokaohhchdhaaGreatDoor
open Go.RowKit
theorem blkW_all {P : Wd→Prop} (hob : P obW) (hcb : P cbW) (hst : ∀ k,P (bs (stL k))) (hnum : ∀ z : Int,0≤z→z≤6→P (numW z)) {nf : Nat} {par : Nat→Int} {locals : Int} (hl : locals≤6) (htok : ∀ k z,tokErr k z nf locals=0→P (tokW k z)) :
  ∀ {d : Nat} {T : SL},errs (stErr nf par locals) d T=0→∀ w ∈ blkW d T,P w
 | 0,T,_,w,hw => by
  have : w=obW∨w=cbW:=by simpa [blkW] using hw
  rcases this with rfl | rfl
  ·exact hob
  ·exact hcb
 | d + 1,T,h,w,hw => by
  have toks : ∀ {k z : Nat→Int} {n : Nat},(∀ j,j < n→tokErr (k j) (z j) nf locals=0)→∀ w ∈ toksW k z n,P w:=by
   intro k z n
   induction n with
   | zero => intro _ w hw; cases hw
   | succ n ih =>
    intro h w hw
    rcases List.mem_append.1 hw with hw | hw
    ·exact ih (fun j hj => h j (by omega)) w hw
    ·rw [List.mem_singleton] at hw; subst hw; exact htok _ _ (h n (by omega))
  rw [blkW,List.cons_append,List.mem_cons,List.mem_append,List.mem_singleton] at hw
  rcases hw with rfl | hw | rfl
  ·exact hob
  ·obtain ⟨i,hi,hw⟩:=catTo_mem hw
   obtain ⟨s0,s1,s2⟩:=errs_item h hi
   obtain ⟨f0,f1,f2,f3⟩:=stErr_zero s0
   obtain ⟨k1,k2,kn,ke,kf,ka,kb⟩:=formErr_zero f0
   simp only [stmtW,List.mem_append,List.mem_cons] at hw
   rcases hw with ((((rfl | hw) | hw) | hw) | hw) | hw
   ·exact hst _
   ·split at hw
    ·next c =>
     rw [List.mem_singleton] at hw; subst hw
     unfold numErr at f1
     split at f1
     ·cases f1
     ·exact hnum _ (by omega) (by omega)
    ·cases hw
   ·by_cases c : (T.nd i).kind=4
    ·have hz : (T.nd i).ne=0:=by omega
     rw [hz] at hw; cases hw
    ·exact toks (expr_toks (f2.resolve_left c)) w hw
   ·by_cases c : (T.nd i).kind=2
    ·exact toks (expr_toks (f3.resolve_left fun x => x c)) w hw
    ·have hz : (T.nd i).nf=0:=by omega
     rw [hz] at hw; cases hw
   ·split at hw
    ·exact blkW_all hob hcb hst hnum hl htok s1 w hw
    ·cases hw
   ·split at hw
    ·exact blkW_all hob hcb hst hnum hl htok s2 w hw
    ·cases hw
  ·exact hcb
def shortW (w : Wd) : Prop:=w.data.toList.length≤30
theorem numW_short {z : Int} (h0 : -9223372036854775808≤z) (h1 : z≤9223372036854775807) : shortW (numW z):=by
 have:=Lib.itoa_length_le z h0 h1
 show (Lib.itoa z).length≤30
 omega
theorem tokW_short {k z : Int} {nf : Nat} {locals : Int} (hl : locals≤6) (hn : nf≤1000) (h : tokErr k z nf locals=0) : shortW (tokW k z):=by
 have hz : -9223372036854775808≤z∧z≤9223372036854775807:=by
  unfold tokErr at h
  repeat' split at h
  all_goals first | omega | cases h
 have h2:=Lib.itoa_length_le z hz.1 hz.2
 unfold tokW shortW
 split
 ·rw [bs_data]
  unfold opL
  split <;> decide
 ·rw [bs_data,List.length_append]
  have : (mkL k.toNat).length≤3:=by unfold mkL; split <;> decide
  omega
theorem stL_short (k : Nat) : shortW (bs (stL k)):=by
 show (stL k).length≤30
 unfold stL
 split <;> decide
theorem progW_short {nf : Nat} {par loc : Nat→Int} {d : Nat} {body : Nat→SL} (h : progErr nf par loc d body=0) : ∀ w ∈ progW nf par loc d body,shortW w:=by
 intro w hw
 obtain ⟨i,hi,hw⟩:=catTo_mem hw
 obtain ⟨_,hn4,hh,hb⟩:=prog_zero h
 have r:=head_range (hh i hi)
 rw [funWs,List.mem_append] at hw
 rcases hw with hw | hw
 ·have : w=funW∨w=numW (par i)∨w=numW (loc i):=by simpa using hw
  rcases this with rfl | rfl | rfl
  ·show (3 : Nat)≤30; decide
  ·exact numW_short (by omega) (by omega)
  ·exact numW_short (by omega) (by omega)
 ·exact blkW_all (P:=shortW) (by show (1 : Nat)≤30; decide) (by show (1 : Nat)≤30; decide) stL_short (fun z h0 h6 => numW_short (by omega) (by omega)) (locals:=loc i) (by omega) (fun k z t => tokW_short (by omega) (by omega) t) (bodyErr_errs (hb i hi)).2 w hw
theorem toksW_length (k z : Nat→Int) : ∀ n,(toksW k z n).length=n
 | 0 => rfl
 | n + 1 => by simp [toksW,toksW_length k z n]
theorem blk_len {nf : Nat} {par : Nat→Int} {locals : Int} : ∀ {d : Nat} {T : SL},errs (stErr nf par locals) d T=0→(blkW d T).length≤2 + 60 * size d T
 | 0,T,_ => by simp [blkW]
 | d + 1,T,h => by
  have key : ∀ n,n≤T.len→(catTo (fun i => stmtW (blkW d) (T.nd i) (T.sub i false) (T.sub i true)) n).length≤60 * sumTo n (fun i => 1 + size d (T.sub i false) + size d (T.sub i true)):=by
   intro n
   induction n with
   | zero => intro _; simp [catTo]
   | succ n ih =>
    intro hn
    have ih:=ih (by omega)
    obtain ⟨s0,s1,s2⟩:=errs_item h (i:=n) (by omega)
    obtain ⟨f0,f1,f2,f3⟩:=stErr_zero s0
    obtain ⟨k1,k2,kn,ke,kf,ka,kb⟩:=formErr_zero f0
    have a1:=blk_len s1
    have a2:=blk_len s2
    have e1 : (T.nd n).ne≤24:=by
     by_cases c : (T.nd n).kind=4
     ·omega
     ·exact (exprErr_zero (f2.resolve_left c)).1
    have e2 : (T.nd n).nf≤24:=by
     by_cases c : (T.nd n).kind=2
     ·exact (exprErr_zero (f3.resolve_left fun x => x c)).1
     ·omega
    have hs : (stmtW (blkW d) (T.nd n) (T.sub n false) (T.sub n true)).length≤60 * (1 + size d (T.sub n false) + size d (T.sub n true)):=by
     have q1 : (if (T.nd n).kind=1∨(T.nd n).kind=2 then [numW (T.nd n).num] else ([] : List Wd)).length≤1:=by split <;> simp
     have q2 : (if (T.nd n).kind=6∨(T.nd n).kind=7 then blkW d (T.sub n false) else []).length≤(blkW d (T.sub n false)).length:=by split <;> simp
     have q3 : (if (T.nd n).kind=6 then blkW d (T.sub n true) else []).length≤(blkW d (T.sub n true)).length:=by split <;> simp
     simp only [stmtW,List.length_append,List.length_cons,toksW_length]
     omega
    simp only [catTo,sumTo,List.length_append]
    omega
  have:=key T.len (Nat.le_refl _)
  have e : (blkW (d + 1) T).length=2 + (catTo (fun i => stmtW (blkW d) (T.nd i) (T.sub i false) (T.sub i true)) T.len).length:=by
   rw [blkW]; simp; omega
  rw [e]
  show _≤2 + 60 * sumTo T.len (fun i => 1 + size d (T.sub i false) + size d (T.sub i true))
  omega
theorem catTo_len {f : Nat→List Wd} {c : Nat} : ∀ {n : Nat},(∀ i,i < n→(f i).length≤c)→(catTo f n).length≤n * c
 | 0,_ => by simp [catTo]
 | n + 1,h => by
  have:=catTo_len (n:=n) fun i hi => h i (by omega)
  have:=h n (by omega)
  simp only [catTo,List.length_append,Nat.succ_mul]
  omega
theorem fun_len {nf : Nat} {par loc : Nat→Int} {d : Nat} {body : Nat→SL} (h : progErr nf par loc d body=0) : ∀ i,i < nf→(funWs d (par i) (loc i) (body i)).length≤2000:=by
 obtain ⟨_,hn4,hh,hb⟩:=prog_zero h
 intro i hi
 obtain ⟨x,y⟩:=bodyErr_errs (hb i hi)
 have:=blk_len y
 have:=x.2
 simp only [funWs,List.length_append,List.length_cons,List.length_nil]
 omega
theorem prog_len {nf : Nat} {par loc : Nat→Int} {d : Nat} {body : Nat→SL} (h : progErr nf par loc d body=0) : (progW nf par loc d body).length≤8000:=by
 have:=catTo_len (fun_len h)
 obtain ⟨_,hn4,_,_⟩:=prog_zero h
 unfold progW
 have : nf * 2000≤4 * 2000:=Nat.mul_le_mul_right _ hn4
 omega
theorem lens_short : ∀ {ws : List Wd},(∀ w ∈ ws,shortW w)→Lib.lens (ws.map (·.data.toList))≤ws.length * 30
 | [],_ => by simp [Lib.lens]
 | w :: ws,h => by
  have:=lens_short fun x hx => h x (List.mem_cons_of_mem _ hx)
  have h1 : w.data.toList.length≤30:=h w (by simp)
  simp only [Lib.lens,List.map_cons,List.sum_cons,List.length_cons,Nat.succ_mul] at this ⊢
  omega
theorem text_len {ws : List Wd} (h : ∀ w ∈ ws,shortW w) (hl : ws.length≤8000) : (textL ws).length≤1000000:=by
 cases ws with
 | nil => simp [textL,Lib.join_nil]
 | cons w ws =>
  unfold textL
  rw [List.map_cons,Lib.join_length]
  have:=lens_short h
  simp only [List.map_cons,List.length_cons,List.length_map,List.length_nil] at *
  omega
/-! ### The parameters alone matter -/
/-! ### The functions' texts,and their text -/
theorem joinTail_append (a b : List (List UInt8)) : Lib.joinTail [32] (a ++ b)=Lib.joinTail [32] a ++ Lib.joinTail [32] b:=by simp [Lib.joinTail]
theorem joinTail_text {ws : List Wd} (h : ws ≠ []) : Lib.joinTail [32] (ws.map (·.data.toList))=32 :: textL ws:=by
 cases ws with
 | nil => exact absurd rfl h
 | cons w ws => rw [List.map_cons,joinTail_cons,textL,List.map_cons,Lib.join_cons]
def textsTo (f : Nat→List Wd) : Nat→List Wd
 | 0 => []
 | n + 1 => textsTo f n ++ [bs (textL (f n))]
theorem textsTo_len (f : Nat→List Wd) : ∀ n,(textsTo f n).length=n
 | 0 => rfl
 | n + 1 => by rw [textsTo,List.length_append,textsTo_len f n]; rfl
theorem texts_tail {f : Nat→List Wd} (hf : ∀ i,f i ≠ []) : ∀ n,Lib.joinTail [32] ((textsTo f n).map (·.data.toList))=Lib.joinTail [32] ((catTo f n).map (·.data.toList))
 | 0 => rfl
 | n + 1 => by
  rw [textsTo,catTo,List.map_append,List.map_append,joinTail_append,joinTail_append,texts_tail hf n,joinTail_text (hf n)]
  simp [Lib.joinTail,bs_data]
theorem texts_join {f : Nat→List Wd} (hf : ∀ i,f i ≠ []) {n : Nat} (hn : 1≤n) : textL (textsTo f n)=textL (catTo f n):=by
 have h1 : textsTo f n ≠ []:=by
  intro e; have:=textsTo_len f n; rw [e] at this; simp at this; omega
 have h2 : catTo f n ≠ []:=by
  intro e
  obtain ⟨m,rfl⟩ : ∃ m,n=m + 1:=⟨n - 1,by omega⟩
  rw [catTo] at e
  exact hf m (List.append_eq_nil_iff.1 e).2
 have:=texts_tail hf n
 rw [joinTail_text h1,joinTail_text h2] at this
 injection this
end Go.Proofs.YtfaokaohhchdhaaGreatDoor
namespace Go.Proofs.YtfaokaohhchdhaaGreatDoor
open Go.RowKit Go.Maps
theorem add_lit (a : List UInt8) (ha : a.length≤100) (z : Int) (hz0 : -9223372036854775808≤z) (hz1 : z≤9223372036854775807) (w : World) : (Op.stringOp .add ⟨a.toArray⟩ (numW z)).run Tryz.prog w=.ok (.string (bs (a ++ Lib.itoa z))) w:=by
 have h2:=Lib.itoa_length_le z hz0 hz1
 have e : (⟨a.toArray⟩ : ByteArray)=bs a:=rfl
 unfold numW
 rw [e,run_string_add_sum w _ _ (by rw [bs_size,bs_size]; omega),bs_append]
theorem op_cut : ∀ (m : Nat) (_ : 1≤m) (_ : m≤5) (w : World),(Instr.slice 9 (.string ⟨#[63,43,45,42,60,61]⟩) (some (.int .i64 (m : Int))) (some (.int .i64 ((m : Int) + 1))) none).run Tryz.prog w=.ok (.string (bs (opL m))) w
 | 0,h,_,_ => absurd h (by decide)
 | 1,_,_,w => by kernel_rfl
 | 2,_,_,w => by kernel_rfl
 | 3,_,_,w => by kernel_rfl
 | 4,_,_,w => by kernel_rfl
 | 5,_,_,w => by kernel_rfl
 | m + 6,_,h,_ => absurd h (by omega)
set_option maxHeartbeats 2000000 in
theorem tokText_op (N : Nat) (m : Nat) (h1 : 1≤m) (h5 : m≤5) (w : World) (he : Env N w) (hN : N≤w.heap.size) :
  Calls Tryz.prog 146 #[.agg #[.int .i64 3,.int .i64 m]] w fun e w' => e=.returned (.string (bs (opL m)))∧Below w.heap.size w w':=by
 have HI : Hid (∀ w1,Below w.heap.size w w1→Calls Tryz.prog 85 #[.int .i64 (m : Int)] w1 fun e w' => e=.returned (.string (numW m))∧Below w1.heap.size w1 w'):=fun w1 hb => itoa N m (by omega) (by omega) w1 (he.below (hb.mono hN))
 have hcut:=op_cut m h1 h5
 have hm0 : (0 : Int)≤(m : Int):=by omega
 have hm5 : (m : Int)≤5:=by omega
 clear he
 go_enter Tryz.func146,Tryz.ntmps146
 go_wp2_with (first
  | (go_at_call 85; refine (HI.out _ (below_alloc _ _)).mono ?_; rintro e w1 ⟨rfl,b1⟩; have q0:=box_in b1 0 rfl; have q1:=box_in b1 1 rfl))
 go_ret
 exact ⟨rfl,(below_alloc _ _).trans (b1.mono (by simp))⟩
set_option maxHeartbeats 4000000 in
theorem tokText_num (N : Nat) (k : Nat) (h1 : 1≤k) (h6 : k≤6) (h3 : ¬ k=3) (z : Int) (hz0 : -9223372036854775808≤z) (hz1 : z≤9223372036854775807) (w : World) (he : Env N w) (hN : N≤w.heap.size) :
  Calls Tryz.prog 146 #[.agg #[.int .i64 k,.int .i64 z]] w fun e w' => e=.returned (.string (bs (mkL k ++ Lib.itoa z)))∧Below w.heap.size w w':=by
 have HI : Hid (∀ w1,Below w.heap.size w w1→Calls Tryz.prog 85 #[.int .i64 z] w1 fun e w' => e=.returned (.string (numW z))∧Below w1.heap.size w1 w'):=fun w1 hb => itoa N z hz0 hz1 w1 (he.below (hb.mono hN))
 have a2:=add_lit [118] (by decide) z hz0 hz1
 have a4:=add_lit [46] (by decide) z hz0 hz1
 have a5:=add_lit [110,101,119] (by decide) z hz0 hz1
 have a6:=add_lit [102] (by decide) z hz0 hz1
 clear he
 have : k=1∨k=2∨k=4∨k=5∨k=6:=by omega
 rcases this with rfl | rfl | rfl | rfl | rfl
 all_goals
  go_enter Tryz.func146,Tryz.ntmps146
  go_wp2_with (first
   | (go_at_call 85; refine (HI.out _ (below_alloc _ _)).mono ?_; rintro e w1 ⟨rfl,b1⟩; have q0:=box_in b1 0 rfl; have q1:=box_in b1 1 rfl))
  go_ret
  exact ⟨rfl,(below_alloc _ _).trans (b1.mono (by simp))⟩
def tokFit (k z : Int) : Prop:=(k=3∧1≤z∧z≤5)∨(1≤k∧k≤6∧¬ k=3∧-9223372036854775808≤z∧z≤9223372036854775807)
theorem tokText (N : Nat) (k z : Int) (h : tokFit k z) (w : World) (he : Env N w) (hN : N≤w.heap.size) :
  Calls Tryz.prog 146 #[.agg #[.int .i64 k,.int .i64 z]] w fun e w' => e=.returned (.string (tokW k z))∧Below w.heap.size w w':=by
 unfold tokW
 rcases h with ⟨rfl,h1,h5⟩ | ⟨h1,h6,h3,hz0,hz1⟩
 ·rw [if_pos rfl]
  obtain ⟨m,rfl⟩ : ∃ m : Nat,z=m:=⟨z.toNat,by omega⟩
  exact tokText_op N m (by omega) (by omega) w he hN
 ·rw [if_neg h3]
  obtain ⟨n,rfl⟩ : ∃ n : Nat,k=n:=⟨k.toNat,by omega⟩
  exact tokText_num N n (by omega) (by omega) (by omega) z hz0 hz1 w he hN
theorem tokFit_of {k z : Int} {nf : Nat} {locals : Int} (hl : locals≤6) (hn : nf≤1000) (h : tokErr k z nf locals=0) : tokFit k z:=by
 unfold tokErr at h
 unfold tokFit
 by_cases a1 : k=1
 ·rw [if_pos a1] at h; split at h
  ·cases h
  ·omega
 rw [if_neg a1] at h
 by_cases a2 : k=2
 ·rw [if_pos a2] at h; split at h
  ·cases h
  ·omega
 rw [if_neg a2] at h
 by_cases a3 : k=3
 ·rw [if_pos a3] at h; split at h
  ·cases h
  ·omega
 rw [if_neg a3] at h
 by_cases a4 : k=4
 ·rw [if_pos a4] at h; split at h
  ·cases h
  ·omega
 rw [if_neg a4] at h
 by_cases a5 : k=5
 ·rw [if_pos a5] at h; split at h
  ·cases h
  ·omega
 rw [if_neg a5] at h
 by_cases a6 : k=6
 ·rw [if_pos a6] at h; split at h
  ·cases h
  ·omega
 rw [if_neg a6] at h
 cases h
def blankL (ws : List Wd) : List UInt8:=(ws.map fun w => 32 :: w.data.toList).flatten
theorem blankL_append (a b : List Wd) : blankL (a ++ b)=blankL a ++ blankL b:=by simp [blankL]
theorem blankL_one (w : Wd) : blankL [w]=32 :: w.data.toList:=by simp [blankL]
theorem blankL_len : ∀ {ws : List Wd},(∀ w ∈ ws,shortW w)→(blankL ws).length≤ws.length * 31
 | [],_ => by simp [blankL]
 | w :: ws,h => by
  have h1 : w.data.toList.length≤30:=h w (by simp)
  have h2:=blankL_len fun x hx => h x (List.mem_cons_of_mem _ hx)
  have e : blankL (w :: ws)=32 :: (w.data.toList ++ blankL ws):=by simp [blankL]
  rw [e]
  simp only [List.length_cons,List.length_append,Nat.succ_mul]
  omega
theorem add_two (a b : List UInt8) (h : a.length + b.length≤10000000) (w : World) : (Op.stringOp .add (bs a) (bs b)).run Tryz.prog w=.ok (.string (bs (a ++ b))) w:=by
 rw [run_string_add_sum w _ _ (by rw [bs_size,bs_size]; omega),bs_append]
theorem add_blank (t : Wd) (h : t.data.toList.length≤10000000) (w : World) : (Op.stringOp .add ⟨#[32]⟩ t).run Tryz.prog w=.ok (.string (bs (32 :: t.data.toList))) w:=by
 have e : (⟨#[32]⟩ : ByteArray)=bs [32]:=rfl
 rw [e,← bs_of t,run_string_add_sum w _ _ (by rw [bs_size,bs_size]; simp only [List.length_cons,List.length_nil]; omega),bs_append]
 rfl
theorem toks_short {k z : Nat→Int} {nf : Nat} {locals : Int} (hl : locals≤6) (hn : nf≤1000) : ∀ {n : Nat},(∀ j,j < n→tokErr (k j) (z j) nf locals=0)→∀ w ∈ toksW k z n,shortW w
 | 0,_,w,hw => by cases hw
 | n + 1,h,w,hw => by
  rcases List.mem_append.1 hw with hw | hw
  ·exact toks_short hl hn (fun j hj => h j (by omega)) w hw
  ·rw [List.mem_singleton] at hw; subst hw; exact tokW_short hl hn (h n (by omega))
set_option maxHeartbeats 2000000 in
theorem exprText (N : Nat) (v : Value) (n : Nat) (k z : Nat→Int) (nf : Nat) (locals : Int) (hl : locals≤6) (hnf : nf≤1000) (hn : n≤24) (ht : ∀ j,j < n→tokErr (k j) (z j) nf locals=0) (w : World) (hN : N≤w.heap.size) (he : Env N w) (h : ToksAt N w v n k z) :
  Calls Tryz.prog 218 #[v] w fun e w' => e=.returned (.string (bs (blankL (toksW k z n))))∧Below w.heap.size w w':=by
 have HT : Hid (∀ j,j < n→tokErr (k j) (z j) nf locals=0):=ht
 have HE : Hid (Env N w):=he
 obtain ⟨a,cap,rfl,hn9,hc⟩:=h
 have HC : Hid (n=0∨∃ b o,a=some ⟨b,o,none⟩∧b < N∧∀ i,i < n→w.cell? ⟨b,o + i * 2,none⟩=some (.int .i64 (k i))∧w.cell? ⟨b,o + i * 2 + 1,none⟩=some (.int .i64 (z i))):=hc
 clear ht he hc
 go_enter Tryz.func218,Tryz.ntmps218
 go_upto_region 3 with (fail)
 go_loopw [3,8] (fun q i wr => ∃ j : Nat,j≤n∧i=.int .i64 j∧q=.string (bs (blankL (toksW k z j)))∧Below w.heap.size w wr) (fun _ i _ => n - (intOf i).toNat)
 case atStart => exact ⟨0,by omega,rfl,rfl,Below.refl _ _⟩
 case round =>
  obtain ⟨j,hj0,rfl,rfl,hbw⟩:=hrel
  by_cases hj : j < n
  ·obtain h | ⟨b,o,rfl,hb,hct⟩:=HC.out
   ·omega
   obtain ⟨q0,q1⟩:=hct j hj
   rw [← hbw.cell (p:=⟨b,o + j * 2,none⟩) (Nat.lt_of_lt_of_le hb hN)] at q0
   rw [← hbw.cell (p:=⟨b,o + j * 2 + 1,none⟩) (Nat.lt_of_lt_of_le hb hN)] at q1
   have hji : (j : Int) < (n : Int):=by omega
   have hsh : shortW (tokW (k j) (z j)):=tokW_short hl hnf (HT.out j hj)
   have hs30 : (tokW (k j) (z j)).data.toList.length≤30:=hsh
   have hbl:=blankL_len (toks_short hl hnf (n:=j) fun i hi => HT.out i (by omega))
   have hlen : (toksW k z j).length=j:=toksW_length k z j
   have hadd1:=add_blank (tokW (k j) (z j)) (by omega)
   have hadd2:=add_two (blankL (toksW k z j)) (32 :: (tokW (k j) (z j)).data.toList) (by rw [hlen] at hbl; simp only [List.length_cons]; omega)
   have HNx : Hid (blankL (toksW k z (j + 1))=blankL (toksW k z j) ++ (32 :: (tokW (k j) (z j)).data.toList)):=by
    show _=_
    rw [toksW,blankL_append,blankL_one]
   have HTk : Hid (∀ w1,Below w.heap.size w w1→Calls Tryz.prog 146 #[.agg #[.int .i64 (k j),.int .i64 (z j)]] w1 fun e w' => e=.returned (.string (tokW (k j) (z j)))∧Below w1.heap.size w1 w'):=fun w1 hb1 =>
    tokText N (k j) (z j) (tokFit_of hl hnf (HT.out j hj)) w1 (HE.out.below (hb1.mono hN)) (Nat.le_trans hN hb1.size)
   clear hct hsh hbl hs30 hlen
   generalize tokW (k j) (z j)=tw at *
   generalize blankL (toksW k z j)=bl at *
   go_wp2_with (first
    | (go_at_call 146; refine (HTk.out _ (hbw.alloc hbw.size _)).mono ?_; rintro e w1 ⟨rfl,b1⟩))
   go_roundw
   case rel => exact ⟨j + 1,by omega,by go_num,by rw [HNx.out],(hbw.alloc hbw.size _).trans (b1.mono (by have:=hbw.size; simp; omega))⟩
   case measure => simp [intOf]; omega
  ·obtain rfl : j=n:=by omega
   go_wp2_with fail
   go_ret
   exact ⟨rfl,hbw⟩
structure Spc (N : Nat) (w : World) : Prop where
 low : 1≤N
 tab : Lib.TabIs Tryz.prog w "strings.asciiSpace" .u8 Lib.asciiSpaceTab
theorem gSpace : Tryz.prog.globalNamed "strings.asciiSpace"=some 0:=by kernel_rfl
theorem Spc.below {N : Nat} {w w' : World} (h : Spc N w) (hb : Below N w w') : Spc N w':=by
 refine ⟨h.low,?_⟩
 unfold Lib.TabIs
 rw [var_of_block gSpace (hb.block 0 (by have:=h.low; omega))]
 exact h.tab
def wordsL : List UInt8:=[115,101,116,32,112,117,116,32,115,97,121,32,112,97,117,115,101,32,103,111,32,105,102,32,119,104,105,108,101,32,114,101,116,117,114,110]
theorem words_fields : Lib.fields wordsL=[stL 1,stL 2,stL 3,stL 4,stL 5,stL 6,stL 7,stL 8]:=by decide +kernel
theorem words_ascii : ∀ b ∈ wordsL,b.toNat < 128:=by decide +kernel
theorem fieldsK (N : Nat) (w : World) (h : Spc N w) :
  Calls Tryz.prog 151 #[.string ⟨#[115,101,116,32,112,117,116,32,115,97,121,32,112,97,117,115,101,32,103,111,32,105,102,32,119,104,105,108,101,32,114,101,116,117,114,110]⟩] w fun e w' => e=.returned (.slice (some ⟨w.heap.size,0,none⟩) 8 8) ∧
   w'=w.alloc (.cells #[.string (bs (stL 1)),.string (bs (stL 2)),.string (bs (stL 3)),.string (bs (stL 4)),.string (bs (stL 5)),.string (bs (stL 6)),.string (bs (stL 7)),.string (bs (stL 8))] 9):=by
 have hk:=Tryz.strings_Fields_laid (bs wordsL) w (by rw [bs_size]; decide) (fun j b hb => words_ascii b (List.mem_of_getElem? hb)) h.tab
 rw [bs_data,words_fields] at hk
 exact hk
end Go.Proofs.YtfaokaohhchdhaaGreatDoor
