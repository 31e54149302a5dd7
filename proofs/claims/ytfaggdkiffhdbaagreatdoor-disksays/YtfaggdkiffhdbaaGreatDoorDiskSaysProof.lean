/- DiskSays returns true for all disks, all records and all numbers: a disk is checked, held against another, put on, synced, crashed, recovered as the reckoning says, errors too; nothing that was handed in is changed. Conditions: the listed variables of the library read as the program's text lays them (the card ties them to it). -/
import Derived.Test.YtfaggdkiffhdbaaGreatDoorLawDS2
import Derived.Test.YtfaggdkiffhdbaaGreatDoorPart51
import Derived.Test.YtfaggdkiffhdbaaGreatDoorCards
import Derived.Test.YtfaggdkiffhdbaaGreatDoorTie
import Derived.Lib.SmallJoins
import Derived.ChangeOld
import Derived.ChangeMaps5
import Derived.Stop.Joined
import Derived.SevenTiedAt
namespace Go.Proofs.YtfaggdkiffhdbaaGreatDoor.diskSays
open Go.ChangeShapes Go.WideShapes Go.ChangeAt Go.RowKit Go.Joins Go.ChangeMaps

theorem own : ownKnob Tryz.prog.godebug=none:=by kernel_rfl
theorem laidOut : laidOutB Tryz.prog=true:=by kernel_rfl

/-- The cells of a table of numbers. -/
def cellsOfData : DataW Unit→Array Value
 | .agg l => (l.map fun x => match x with
  | .lit (.int k z) => Value.int k z
  | _ => .bool false).toArray
 | _ => #[]
/-- The heap that the door's own run leaves,the pinned table laid. -/
noncomputable def startW (os : Os) : World :=
 { World.doorLaid Tryz.prog 400 os with heap:=(World.doorLaid Tryz.prog 400 os).heap.modify 4 fun o => match o with
   | .cells _ t frozen => .cells (cellsOfData Rows.laid_unicode_utf8_first) t frozen
   | o => o }

/-- That heap meets the condition. -/
theorem door_met (os : Os) (args : Array Value) : laidMetH Tryz.prog nlaidL ((startW os).forCall (fun _ _ => 0) ⟨#[],args,[]⟩).memory :=
 laidMetH_of_parts3 (fuel:=8) (laidMet_of_run' 8 (by kernel_rfl) (by kernel_rfl)) (by kernel_rfl) (by kernel_rfl)

set_option maxRecDepth 100000 in
theorem lifted (os : Os) (started : os.Started) (H : Type) (enc : TypeId×Value→H) :
  ReturnsInHanded {} Tryz.checked os 3 .any (fun w args => (Rows.diskSaysSpec.pre enc Tryz.prog Tryz.f3 [] false w args∧laidMetH Tryz.prog nlaidL w)∧sizedMet enc Tryz.prog Tryz.f3 (OpenSpec.ofChange Rows.diskSaysSpec) false w args)
   (Rows.diskSaysSpec.post enc Tryz.prog Tryz.f3 false true false false):=by
 refine returnsInHanded_of_calls own started (by kernel_rfl)
  (ChangeSpec.witness_shaped (enc:=enc) (C:=Tryz.checked) (os:=os) (fn:=Tryz.f3) (X:=fun w _ => laidMetH Tryz.prog nlaidL w) false (startW os) #[.agg #[.slice none 0 0,.slice none 0 0],.agg #[.int .i64 0,.int .i64 0,.int .i64 0,.int .i64 0,.slice none 0 0,.slice none 0 0],.int .i64 0,.agg #[.slice none 0 0,.slice none 0 0]] 8 rfl (World.shaped_of_RefB (by kernel_rfl) (by kernel_rfl)) (by kernel_rfl) (by kernel_rfl) (by kernel_rfl) (door_met os _)) ?_
 intro w tape i _ hsh _ hok hpre _
 obtain ⟨_,_,_,fn',hfn',_,_,_,_,hval0⟩:=hok
 have efn : fn'=Tryz.f3:=Option.some.inj (hfn'.symm.trans Tryz.func3)
 subst efn
 obtain ⟨⟨⟨ds,gs,before,hw,_⟩,hx⟩,hz⟩:=hpre
 have hwt:=hz.weights hw
 have hW:=DataW.Whole.of_heap (w':=w.forCall tape i) (by rfl) hw
 have hL0 : laidMetH Tryz.prog nlaidL (w.forCall tape i):=hx.of_heap (by rfl)
 have key : Calls Tryz.prog 3 i.args (w.forCall tape i) fun e W' => ∃ v,e=.returned v∧Rows.diskSaysSpec.post enc Tryz.prog Tryz.f3 false true false false (w.forCall tape i) i.args v W':=by
  generalize hargs0 : i.args=args at *
  generalize w.forCall tape i=W at *
  have hL : laidMet Tryz.prog nlaidL W:=by
   rw [MakeChecks.laidMetH_plain _ _ _ (by kernel_rfl)] at hL0
   exact hL0
  have he:=nenv_of_laid hL hsh
  have hval : ∀ (j : Nat) t v,Tryz.f3.params[j]?=some t→args[j]?=some v→Value.okWide Tryz.prog W .any w.heap.size t v:=hval0
  have hW':=hW
  obtain ⟨p,q,hA0,hV,rfl,hfz,hnd⟩:=hW
  have hA : DataW.TrodAll enc Tryz.prog W 0 (fun _ => true) true Tryz.f3.params.toList args.toList ds p:=hA0
  rw [Tryz.params3] at hA hval
  obtain ⟨v0,vs0,d0,ds0,p0,q0,hargs,rfl,rfl,h0,r0⟩:=trodAll_cons hA
  obtain ⟨v1,vs1,d1,ds1,p1,q1,rfl,rfl,rfl,h1,r1⟩:=trodAll_cons r0
  obtain ⟨v2,vs2,d2,ds2,p2,q2,rfl,rfl,rfl,h2,r2⟩:=trodAll_cons r1
  obtain ⟨v3,vs3,d3,ds3,p3,q3,rfl,rfl,rfl,h3,r3⟩:=trodAll_cons r2
  obtain ⟨rfl,rfl,rfl⟩:=trodAll_nil r3
  obtain rfl : args=#[v0,v1,v2,v3]:=by cases args; simp_all
  obtain ⟨rfl,rfl⟩:=trodVars_none hV
  have lt0 : ∀ x ∈ p0,x.block < W.heap.size:=by obtain ⟨m,hm⟩:=h0; exact DataW.trod_lt m _ _ _ hm
  have lt1 : ∀ x ∈ p1,x.block < W.heap.size:=by obtain ⟨m,hm⟩:=h1; exact DataW.trod_lt m _ _ _ hm
  have lt2 : ∀ x ∈ p2,x.block < W.heap.size:=by obtain ⟨m,hm⟩:=h2; exact DataW.trod_lt m _ _ _ hm
  have lt3 : ∀ x ∈ p3,x.block < W.heap.size:=by obtain ⟨m,hm⟩:=h3; exact DataW.trod_lt m _ _ _ hm
  obtain ⟨sa,sc,wa,wc,D,e0,f0,k0⟩:=disk_of_trod (hval 0 24 v0 rfl rfl) h0
  obtain ⟨ra,rc,ia,ic,r,e1,f1,k1⟩:=rec_of_trod2 (hval 1 27 v1 rfl rfl) h1
  obtain ⟨n,e2⟩ : ∃ n,v2=.int .i64 n:=by
   obtain ⟨x,rfl,_⟩:=open_int Tryz.underlying3 (hval 2 3 v2 rfl rfl) h2
   exact ⟨x,rfl⟩
  obtain ⟨xa,xc,ya,yc,X,e3,f3,_⟩:=disk_of_trod (hval 3 24 v3 rfl rfl) h3
  have hsm : DSmall D:=k0 fun n hn => by
   have:=List.all_eq_true.1 hwt _ (DataW.weights_mem_each (j:=0) (t:=24) (d:=d0) (by rw [Tryz.params3]; rfl) rfl n hn)
   simpa using this
  clear hwt
  clear hA0 hval0 hval
  have hcall : Calls Tryz.prog 3 #[v0,v1,v2,v3] W fun e w' => e=.returned (.bool true)∧Hid (Below W.heap.size W w'):=by
   rw [e0,e1,e2,e3]
   exact Go.Proofs.YtfaggdkiffhdbaaGreatDoor.diskSays W.heap.size D X r n sa wa xa ya ra ia sc wc xc yc rc ic W he (Nat.le_refl _) f0 f3 hsm f1 k1
  refine hcall.mono fun e W' ⟨he,bel'⟩ => ?_
  have bel:=bel'.out
  subst he
  exact ⟨_,rfl,_,_,_,[],_,[],hW',trodAll_mk1 (shut_bool Tryz.underlying4 _),
   (trodAll_cons_mk (Below.trod laidOut (by kernel_rfl) (of_decide_eq_true (by kernel_rfl)) h0 bel lt0)
    (trodAll_cons_mk (Below.trod laidOut (by kernel_rfl) (of_decide_eq_true (by kernel_rfl)) h1 bel lt1)
     (trodAll_cons_mk (Below.trod laidOut (by kernel_rfl) (of_decide_eq_true (by kernel_rfl)) h2 bel lt2)
      (trodAll_cons_mk (Below.trod laidOut (by kernel_rfl) (of_decide_eq_true (by kernel_rfl)) h3 bel lt3) trodAll_mk0)))),rfl,bel.frame _,fun h => by cases h⟩
 refine key.mono fun e W' ⟨v,he,hp⟩ => ?_
 subst he
 exact ChangeSpec.post_blind hp

set_option maxHeartbeats 2000000 in
theorem over : Rows.diskSaysRow.holds Tryz.pinned (OpenSpec.ofChange Rows.diskSaysSpec) :=
 OpenClaim.holds_of_wide 3 Tryz.f3 rfl rfl rfl rfl rfl rfl rfl ⟨rfl,rfl,rfl,rfl,rfl⟩ rfl rfl rfl rfl rfl (by as_aux_lemma => kernel_rfl) Tryz.func3 (by as_aux_lemma => kernel_rfl)
  (of_decide_eq_true (by as_aux_lemma => kernel_rfl)) (by unfold Func.isWrapper; first | (rw [if_pos (by decide +kernel)]; kernel_rfl) | (rw [if_neg (by decide +kernel)]; exact ⟨rfl,rfl⟩))
  (fun os started H enc _ => lifted os started H enc)

end Go.Proofs.YtfaggdkiffhdbaaGreatDoor.diskSays

namespace Go.Proofs.YtfaggdkiffhdbaaGreatDoor
open Go
/-- The statement: the tied card. -/
theorem diskSays_proved : Rows.DiskSaysCardSaid :=
 Claim7.holds_tied_plain_at .later [] [.data,.data,.data,.data,.sentinel,.sentinel,.pinned] true (true,"e508cc5ae25d0ed9964347b815e4ec038776eef3a4ede03417b789b47d13189c") true
  diskSays.over (fun _ h => by cases h) (by kernel_rfl) (fun _ h => by cases h) diskSays_row_tie rfl ⟨rfl,rfl⟩ (by kernel_rfl) rfl
  (fun f fn hf hfn => by
   obtain rfl : f=3:=Option.some.inj ((show Tryz.prog.funcNamed "wanderer/wandererlaw.DiskSays"=some 3 by kernel_rfl).symm.trans hf) |>.symm
   obtain rfl : fn=Tryz.f3:=(Option.some.inj (Tryz.func3.symm.trans hfn)).symm
   exact ⟨by kernel_rfl,fun j t ht => by
    rw [Tryz.params3] at ht
    have h3 : t=24∨t=27∨t=3:=by
     rcases j with _ | _ | _ | _ | j
     ·left; simpa using ht.symm
     ·right; left; simpa using ht.symm
     ·right; right; simpa using ht.symm
     ·left; simpa using ht.symm
     ·simp at ht
    rcases h3 with rfl | rfl | rfl
    ·exact (show Tryz.prog.wantsStandIn 24=false by kernel_rfl)
    ·exact (show Tryz.prog.wantsStandIn 27=false by kernel_rfl)
    ·exact (show Tryz.prog.wantsStandIn 3=false by kernel_rfl)⟩)
  (by kernel_rfl)
#print axioms diskSays_proved
end Go.Proofs.YtfaggdkiffhdbaaGreatDoor
