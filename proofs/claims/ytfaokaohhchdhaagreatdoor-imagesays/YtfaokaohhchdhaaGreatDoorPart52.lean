/- How programs of instructions that are read as data lie in memory; each operation's number is a number of Go's. -/
import Derived.Test.YtfaokaohhchdhaaGreatDoorOpenCode
import Derived.Test.YtfaokaohhchdhaaGreatDoorRefCode
import Derived.Deep.SlicePairs
import Derived.Test.YtfaokaohhchdhaaGreatDoorImgSays
import Derived.Test.YtfaokaohhchdhaaGreatDoorImgLaid
import Derived.Test.YtfaokaohhchdhaaGreatDoorCards
import Derived.Test.YtfaokaohhchdhaaGreatDoorTie
import Derived.Lib.SmallJoins
import Derived.ChangeOld
import Derived.ChangeMaps5
import Derived.Stop.Joined
import Derived.SevenTiedAt
namespace Go.Proofs.YtfaokaohhchdhaaGreatDoor
open Go.ChangeShapes Go.WideShapes Go.ChangeAt Go.RowKit Go.Deep

section
variable {H : Type} {enc : TypeId × Value→H} {W : World} {base : Nat} {spare : Nat→Bool} {held : Bool}

theorem code_fit_of_trod {fuel : Nat} {v : Value} {x : DataW H × List MemPlace} (h : DataW.trod enc Tryz.prog W base spare held fuel 36 [v] = some x) : ∃ n ins,CodeAt W.heap.size W v n ins∧∀ k,k < n→(Lit.int .i64 (ins k).op).wf = true:=by
 rcases sliceEach Tryz.underlying36 h with rfl | ⟨a,len,cap,n,rfl,hl,hi⟩
 ·exact ⟨0,fun _ => ⟨0,0,0,0,0,fun _ => 0⟩,⟨none,0,rfl,by omega,Or.inl rfl⟩,fun k hk => by omega⟩
 ·have each : ∀ i,i < len→∃ q : In,∃ va,W.cell? (a.add (i * 5)) = some (.int .i64 q.op)∧W.cell? (a.add (i * 5 + 1)) = some (.int .i64 q.a)∧W.cell? (a.add (i * 5 + 2)) = some (.int .i64 q.b)∧W.cell? (a.add (i * 5 + 3)) = some (.int .i64 q.c)∧W.cell? (a.add (i * 5 + 4)) = some va∧NumsAt W.heap.size W va q.n q.z∧(Lit.int .i64 q.op).wf = true:=by
   intro i hlt
   obtain ⟨cs,y,h1,h2⟩:=hi i hlt
   rw [cIns5] at h1
   obtain ⟨_,hlen,hcell⟩:=World.cells?_some h1
   obtain ⟨xs,k,rfl,hxy,_,hxl,hf⟩:=DataW.trod_struct Tryz.underlying84 h2
   obtain ⟨y0,y1,y2,y3,y4,rfl⟩:=lenFive (l:=xs) hxl
   obtain ⟨v0,v1,v2,v3,v4,rfl⟩:=lenFive hlen
   have g0:=hf 0 _ rfl
   have g1:=hf 1 _ rfl
   have g2:=hf 2 _ rfl
   have g3:=hf 3 _ rfl
   have g4:=hf 4 _ rfl
   simp [cInt1,cLInt1] at g0 g1 g2 g3 g4
   have e0:=hcell 0 (by omega)
   have e1:=hcell 1 (by omega)
   have e2:=hcell 2 (by omega)
   have e3:=hcell 3 (by omega)
   have e4:=hcell 4 (by omega)
   obtain ⟨z0,q0,_,wf0⟩:=DataW.trod_int Tryz.underlying3 g0
   obtain ⟨z1,q1,_,_⟩:=DataW.trod_int Tryz.underlying3 g1
   obtain ⟨z2,q2,_,_⟩:=DataW.trod_int Tryz.underlying3 g2
   obtain ⟨z3,q3,_,_⟩:=DataW.trod_int Tryz.underlying3 g3
   simp at q0 q1 q2 q3
   subst q0 q1 q2 q3
   obtain ⟨m,z,hz⟩:=nums_of_trod g4
   rw [add_add] at e0 e1 e2 e3 e4
   exact ⟨⟨z0,z1,z2,z3,m,z⟩,v4,by simpa using e0,by simpa using e1,by simpa using e2,by simpa using e3,by simpa using e4,hz,wf0⟩
  haveI : Inhabited In:=⟨⟨0,0,0,0,0,fun _ => 0⟩⟩
  obtain ⟨q,hq⟩:=pick_lt each
  refine ⟨len,q,⟨some a,cap,rfl,hl,?_⟩,fun k hk => by obtain ⟨_,_,_,_,_,_,_,h⟩:=hq k hk; exact h⟩
  by_cases h0 : len = 0
  ·exact Or.inl h0
  ·right
   obtain ⟨_,c0,_⟩:=hq 0 (by omega)
   have hp:=plainAt (v:=.int .i64 (q 0).op) (by simpa using c0)
   refine ⟨a.block,a.off,by rw [hp],?_,fun i hlt => ?_⟩
   ·have:=cell_lt c0
    simpa [Addr.add] using this
   ·obtain ⟨va,c0,c1,c2,c3,c4,s,_⟩:=hq i hlt
    rw [hp,add_plain] at c0 c1 c2 c3 c4
    exact ⟨va,c0,c1,c2,c3,c4,s⟩

theorem procs_fit_of_trod {fuel : Nat} {v : Value} {x : DataW H × List MemPlace} (h : DataW.trod enc Tryz.prog W base spare held fuel 22 [v] = some x) : ∃ n P,ProcsAt W.heap.size W v n P∧opsFit n P:=by
 rcases sliceEach Tryz.underlying22 h with rfl | ⟨a,len,cap,n,rfl,hl,hi⟩
 ·exact ⟨0,fun _ => ⟨0,0,0,fun _ => ⟨0,0,0,0,0,fun _ => 0⟩⟩,⟨none,0,rfl,by omega,Or.inl rfl⟩,fun k hk => by omega⟩
 ·have each : ∀ i,i < len→∃ q : Pc,∃ vc,W.cell? (a.add (i * 3)) = some (.int .i64 q.params)∧W.cell? (a.add (i * 3 + 1)) = some (.int .i64 q.regs)∧W.cell? (a.add (i * 3 + 2)) = some vc∧CodeAt W.heap.size W vc q.n q.ins∧∀ k,k < q.n→(Lit.int .i64 (q.ins k).op).wf = true:=by
   intro i hlt
   obtain ⟨cs,y,h1,h2⟩:=hi i hlt
   rw [cProc3] at h1
   obtain ⟨_,hlen,hcell⟩:=World.cells?_some h1
   obtain ⟨xs,k,rfl,hxy,_,hxl,hf⟩:=DataW.trod_struct Tryz.underlying38 h2
   obtain ⟨y0,y1,y2,rfl⟩:=lenThree (l:=xs) hxl
   obtain ⟨v0,v1,v2,rfl⟩:=lenThree hlen
   have g0:=hf 0 _ rfl
   have g1:=hf 1 _ rfl
   have g2:=hf 2 _ rfl
   simp [cInt1,cLIns1] at g0 g1 g2
   have e0:=hcell 0 (by omega)
   have e1:=hcell 1 (by omega)
   have e2:=hcell 2 (by omega)
   obtain ⟨z0,q0,_,_⟩:=DataW.trod_int Tryz.underlying3 g0
   obtain ⟨z1,q1,_,_⟩:=DataW.trod_int Tryz.underlying3 g1
   simp at q0 q1
   subst q0 q1
   obtain ⟨m,ins,hz,hf2⟩:=code_fit_of_trod g2
   rw [add_add] at e0 e1 e2
   exact ⟨⟨z0,z1,m,ins⟩,v2,by simpa using e0,by simpa using e1,by simpa using e2,hz,hf2⟩
  haveI : Inhabited Pc:=⟨⟨0,0,0,fun _ => ⟨0,0,0,0,0,fun _ => 0⟩⟩⟩
  obtain ⟨q,hq⟩:=pick_lt each
  refine ⟨len,q,⟨some a,cap,rfl,hl,?_⟩,fun k hk => by obtain ⟨_,_,_,_,_,h⟩:=hq k hk; exact h⟩
  by_cases h0 : len = 0
  ·exact Or.inl h0
  ·right
   obtain ⟨_,c0,_⟩:=hq 0 (by omega)
   have hp:=plainAt (v:=.int .i64 (q 0).params) (by simpa using c0)
   refine ⟨a.block,a.off,by rw [hp],?_,fun i hlt => ?_⟩
   ·have:=cell_lt c0
    simpa [Addr.add] using this
   ·obtain ⟨vc,c0,c1,c2,s,_⟩:=hq i hlt
    rw [hp,add_plain] at c0 c1 c2
    exact ⟨vc,c0,c1,c2,s⟩

end
end Go.Proofs.YtfaokaohhchdhaaGreatDoor
namespace Go.Proofs.YtfaokaohhchdhaaGreatDoor.imageSays
open Go.ChangeShapes Go.WideShapes Go.ChangeAt Go.RowKit Go.Joins Go.ChangeMaps

theorem own : ownKnob Tryz.prog.godebug = none:=by kernel_rfl
theorem laidOut : laidOutB Tryz.prog = true:=by kernel_rfl

/-- The cells of a table of numbers. -/
def cellsOfData : DataW Unit→Array Value
 | .agg l => (l.map fun x => match x with
  | .lit (.int k z) => Value.int k z
  | _ => .bool false).toArray
 | _ => #[]
/-- The heap that the door's own run leaves,the pinned table laid. -/
noncomputable def startW (os : Os) : World :=
 { World.doorLaid Tryz.prog 400 os with heap:=(World.doorLaid Tryz.prog 400 os).heap.modify 6 fun o => match o with
   | .cells _ t frozen => .cells (cellsOfData Rows.laid_unicode_utf8_first) t frozen
   | o => o }

/-- That heap meets the condition. -/
theorem door_met (os : Os) (args : Array Value) : laidMetH Tryz.prog nlaidL ((startW os).forCall (fun _ _ => 0) ⟨#[],args,[]⟩).memory :=
 laidMetH_of_parts3 (fuel:=8) (laidMet_of_run' 8 (by kernel_rfl) (by kernel_rfl)) (by kernel_rfl) (by kernel_rfl)

set_option maxRecDepth 100000 in
theorem lifted (os : Os) (started : os.Started) (H : Type) (enc : TypeId × Value→H) :
  ReturnsInHanded {} Tryz.checked os 11 .any (fun w args => (Rows.imageSaysSpec.pre enc Tryz.prog Tryz.f11 [] false w args∧laidMetH Tryz.prog nlaidL w)∧sizedMet enc Tryz.prog Tryz.f11 (OpenSpec.ofChange Rows.imageSaysSpec) false w args)
   (Rows.imageSaysSpec.post enc Tryz.prog Tryz.f11 false true false false):=by
 refine returnsInHanded_of_calls own started (by kernel_rfl)
  (ChangeSpec.witness_shaped (enc:=enc) (C:=Tryz.checked) (os:=os) (fn:=Tryz.f11) (X:=fun w _ => laidMetH Tryz.prog nlaidL w) false (startW os) #[.slice none 0 0,.string ⟨#[]⟩] 8 rfl (World.shaped_of_RefB (by kernel_rfl) (by kernel_rfl)) (by kernel_rfl) (by kernel_rfl) (by kernel_rfl) (door_met os _)) ?_
 intro w tape i _ hsh _ hok hpre _
 obtain ⟨_,_,_,fn',hfn',_,_,_,_,hval0⟩:=hok
 have efn : fn' = Tryz.f11:=Option.some.inj (hfn'.symm.trans Tryz.func11)
 subst efn
 obtain ⟨⟨⟨ds,gs,before,hw,_⟩,hx⟩,_⟩:=hpre
 have hW:=DataW.Whole.of_heap (w':=w.forCall tape i) (by rfl) hw
 have hL0 : laidMetH Tryz.prog nlaidL (w.forCall tape i):=hx.of_heap (by rfl)
 have key : Calls Tryz.prog 11 i.args (w.forCall tape i) fun e W' => ∃ v,e = .returned v∧Rows.imageSaysSpec.post enc Tryz.prog Tryz.f11 false true false false (w.forCall tape i) i.args v W':=by
  generalize hargs0 : i.args = args at *
  generalize w.forCall tape i = W at *
  have hL : laidMet Tryz.prog nlaidL W:=by
   rw [MakeChecks.laidMetH_plain _ _ _ (by kernel_rfl)] at hL0
   exact hL0
  have he:=nenv_of_laid hL hsh
  have hval : ∀ (j : Nat) t v,Tryz.f11.params[j]? = some t→args[j]? = some v→Value.okWide Tryz.prog W .any w.heap.size t v:=hval0
  have hW':=hW
  obtain ⟨p,q,hA0,hV,rfl,hfz,hnd⟩:=hW
  have hA : DataW.TrodAll enc Tryz.prog W 0 (fun _ => true) true Tryz.f11.params.toList args.toList ds p:=hA0
  rw [Tryz.params11] at hA hval
  obtain ⟨v0,vs0,d0,ds0,p0,q0,hargs,rfl,rfl,h0,r0⟩:=trodAll_cons hA
  obtain ⟨v1,vs1,d1,ds1,p1,q1,rfl,rfl,rfl,h1,r1⟩:=trodAll_cons r0
  obtain ⟨rfl,rfl,rfl⟩:=trodAll_nil r1
  obtain rfl : args = #[v0,v1]:=by cases args; simp_all
  obtain ⟨rfl,rfl⟩:=trodVars_none hV
  have lt0 : ∀ x ∈ p0,x.block < W.heap.size:=by obtain ⟨m,hm⟩:=h0; exact DataW.trod_lt m _ _ _ hm
  have lt1 : ∀ x ∈ p1,x.block < W.heap.size:=by obtain ⟨m,hm⟩:=h1; exact DataW.trod_lt m _ _ _ hm
  obtain ⟨np,P,f0,ff⟩ : ∃ (n : Nat) (P : Nat→Pc),ProcsAt W.heap.size W v0 n P∧opsFit n P:=by
   obtain ⟨a,len,cap,rfl⟩:=okWide_slice Tryz.underlying22 (hval 0 22 v0 rfl rfl)
   obtain ⟨fuel,hf⟩:=h0
   exact procs_fit_of_trod (by simpa [Value.cells] using hf)
  obtain ⟨str,rfl,hsm⟩ : ∃ str,v1 = .string str∧str.size ≤ 9223372036854775807:=by
   obtain ⟨x,rfl,_,_,ws⟩:=open_string Tryz.underlying9 (hval 1 9 v1 rfl rfl) h1
   exact ⟨x,rfl,by unfold maxLen at ws; omega⟩
  clear hA0 hval0 hval
  refine (Go.Proofs.YtfaokaohhchdhaaGreatDoor.imageSays W.heap.size v0 np P str hsm W (Nat.le_refl _) he f0 ff).mono fun e W' ⟨he,bel⟩ => ?_
  subst he
  exact ⟨_,rfl,_,_,_,[],_,[],hW',trodAll_mk1 (shut_bool Tryz.underlying4 _),
   (trodAll_cons_mk (Below.trod laidOut (by kernel_rfl) (of_decide_eq_true (by kernel_rfl)) h0 bel lt0)
    (trodAll_cons_mk (Below.trod laidOut (by kernel_rfl) (of_decide_eq_true (by kernel_rfl)) h1 bel lt1) trodAll_mk0)),rfl,bel.frame _,fun h => by cases h⟩
 refine key.mono fun e W' ⟨v,he,hp⟩ => ?_
 subst he
 exact ChangeSpec.post_blind hp

theorem over : Rows.imageSaysRow.holds Tryz.pinned (OpenSpec.ofChange Rows.imageSaysSpec) :=
 OpenClaim.holds_of_wide 11 Tryz.f11 rfl rfl rfl rfl rfl rfl rfl ⟨rfl,rfl,rfl,rfl,rfl⟩ rfl rfl rfl rfl rfl (by kernel_rfl) Tryz.func11 (by kernel_rfl)
  (of_decide_eq_true (by kernel_rfl)) (by unfold Func.isWrapper; first | (rw [if_pos (by decide +kernel)]; kernel_rfl) | (rw [if_neg (by decide +kernel)]; exact ⟨rfl,rfl⟩))
  (fun os started H enc _ => lifted os started H enc)

end Go.Proofs.YtfaokaohhchdhaaGreatDoor.imageSays

namespace Go.Proofs.YtfaokaohhchdhaaGreatDoor
open Go
/-- The statement: the tied card. -/
theorem imageSays_proved : Rows.ImageSaysCardSaid :=
 Claim7.holds_tied_plain_at .later [] [.data,.data,.data,.data,.sentinel,.sentinel,.pinned] true (true,"84d25689f33b212f52b3031d0bbd290d5144cff6e83dda15c9cf78d893216ad7") true
  imageSays.over (fun _ h => by cases h) (by kernel_rfl) (fun _ h => by cases h) imageSays_row_tie rfl ⟨rfl,rfl⟩ (by kernel_rfl) rfl
  (fun f fn hf hfn => by
   obtain rfl : f = 11:=Option.some.inj ((show Tryz.prog.funcNamed "wanderer/wandererlaw.ImageSays" = some 11 by kernel_rfl).symm.trans hf) |>.symm
   obtain rfl : fn = Tryz.f11:=(Option.some.inj (Tryz.func11.symm.trans hfn)).symm
   exact ⟨by kernel_rfl,fun j t ht => by
    rw [Tryz.params11] at ht
    have h3 : t = 22 ∨ t = 9:=by
     rcases j with _ | _ | j
     ·left; simpa using ht.symm
     ·right; simpa using ht.symm
     ·simp at ht
    rcases h3 with rfl | rfl
    ·exact (show Tryz.prog.wantsStandIn 22 = false by kernel_rfl)
    ·exact (show Tryz.prog.wantsStandIn 9 = false by kernel_rfl)⟩)
  (by kernel_rfl)
#print axioms imageSays_proved
end Go.Proofs.YtfaokaohhchdhaaGreatDoor
