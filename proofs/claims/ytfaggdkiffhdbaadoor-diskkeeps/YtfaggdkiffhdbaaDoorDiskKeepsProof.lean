/- DiskKeeps returns true for all lists of records and all numbers: what is synced is there after the crash, of the rest a beginning; nothing that was handed in is changed. Conditions: the listed variables of the library read as the program's text lays them (the card ties them to it). -/
import Derived.Test.YtfaggdkiffhdbaaDoorLawDK
import Derived.Test.YtfaggdkiffhdbaaDoorPart51
import Derived.Test.YtfaggdkiffhdbaaDoorPart8
import Derived.Test.YtfaggdkiffhdbaaDoorCards
import Derived.Test.YtfaggdkiffhdbaaDoorTie
import Derived.Lib.SmallJoins
import Derived.ChangeOld
import Derived.ChangeMaps5
import Derived.Stop.Joined
import Derived.SevenTiedAt
namespace Go.Proofs.YtfaggdkiffhdbaaDoor.diskKeeps
open Go.ChangeShapes Go.WideShapes Go.ChangeAt Go.RowKit Go.Joins Go.ChangeMaps

theorem own : ownKnob Tryd.prog.godebug=none:=by kernel_rfl
theorem laidOut : laidOutB Tryd.prog=true:=by kernel_rfl

/-- The cells of a table of numbers. -/
def cellsOfData : DataW Unit→Array Value
 | .agg l => (l.map fun x => match x with
  | .lit (.int k z) => Value.int k z
  | _ => .bool false).toArray
 | _ => #[]
/-- The heap that the door's own run leaves,the pinned table laid. -/
noncomputable def startW (os : Os) : World :=
 { World.doorLaid Tryd.prog 400 os with heap:=(World.doorLaid Tryd.prog 400 os).heap.modify 4 fun o => match o with
   | .cells _ t frozen => .cells (cellsOfData Rows.laid_unicode_utf8_first) t frozen
   | o => o }

/-- That heap meets the condition. -/
theorem door_met (os : Os) (args : Array Value) : laidMetH Tryd.prog nlaidL ((startW os).forCall (fun _ _ => 0) ⟨#[],args,[]⟩).memory :=
 laidMetH_of_parts3 (fuel:=8) (laidMet_of_run' 8 (by kernel_rfl) (by kernel_rfl)) (by kernel_rfl) (by kernel_rfl)

set_option maxRecDepth 100000 in
theorem lifted (os : Os) (started : os.Started) (H : Type) (enc : TypeId×Value→H) :
  ReturnsInHanded {} Tryd.checked os 4 .any (fun w args => (Rows.diskKeepsSpec.pre enc Tryd.prog Tryd.f4 [] false w args∧laidMetH Tryd.prog nlaidL w)∧sizedMet enc Tryd.prog Tryd.f4 (OpenSpec.ofChange Rows.diskKeepsSpec) false w args)
   (Rows.diskKeepsSpec.post enc Tryd.prog Tryd.f4 false true false false):=by
 refine returnsInHanded_of_calls own started (by kernel_rfl)
  (ChangeSpec.witness_shaped (enc:=enc) (C:=Tryd.checked) (os:=os) (fn:=Tryd.f4) (X:=fun w _ => laidMetH Tryd.prog nlaidL w) false (startW os) #[.slice none 0 0,.slice none 0 0,.int .i64 0] 8 rfl (World.shaped_of_RefB (by kernel_rfl) (by kernel_rfl)) (by kernel_rfl) (by kernel_rfl) (by kernel_rfl) (door_met os _)) ?_
 intro w tape i _ hsh _ hok hpre _
 obtain ⟨_,_,_,fn',hfn',_,_,_,_,hval0⟩:=hok
 have efn : fn'=Tryd.f4:=Option.some.inj (hfn'.symm.trans Tryd.func4)
 subst efn
 obtain ⟨⟨⟨ds,gs,before,hw,_⟩,hx⟩,_⟩:=hpre
 have hW:=DataW.Whole.of_heap (w':=w.forCall tape i) (by rfl) hw
 have hL0 : laidMetH Tryd.prog nlaidL (w.forCall tape i):=hx.of_heap (by rfl)
 have key : Calls Tryd.prog 4 i.args (w.forCall tape i) fun e W' => ∃ v,e=.returned v∧Rows.diskKeepsSpec.post enc Tryd.prog Tryd.f4 false true false false (w.forCall tape i) i.args v W':=by
  generalize hargs0 : i.args=args at *
  generalize w.forCall tape i=W at *
  have hL : laidMet Tryd.prog nlaidL W:=by
   rw [MakeChecks.laidMetH_plain _ _ _ (by kernel_rfl)] at hL0
   exact hL0
  have he:=nenv_of_laid hL hsh
  have hval : ∀ (j : Nat) t v,Tryd.f4.params[j]?=some t→args[j]?=some v→Value.okWide Tryd.prog W .any w.heap.size t v:=hval0
  have hW':=hW
  obtain ⟨p,q,hA0,hV,rfl,hfz,hnd⟩:=hW
  have hA : DataW.TrodAll enc Tryd.prog W 0 (fun _ => true) true Tryd.f4.params.toList args.toList ds p:=hA0
  rw [Tryd.params4] at hA hval
  obtain ⟨v0,vs0,d0,ds0,p0,q0,hargs,rfl,rfl,h0,r0⟩:=trodAll_cons hA
  obtain ⟨v1,vs1,d1,ds1,p1,q1,rfl,rfl,rfl,h1,r1⟩:=trodAll_cons r0
  obtain ⟨v2,vs2,d2,ds2,p2,q2,rfl,rfl,rfl,h2,r2⟩:=trodAll_cons r1
  obtain ⟨rfl,rfl,rfl⟩:=trodAll_nil r2
  obtain rfl : args=#[v0,v1,v2]:=by cases args; simp_all
  obtain ⟨rfl,rfl⟩:=trodVars_none hV
  have lt0 : ∀ x ∈ p0,x.block < W.heap.size:=by obtain ⟨m,hm⟩:=h0; exact DataW.trod_lt m _ _ _ hm
  have lt1 : ∀ x ∈ p1,x.block < W.heap.size:=by obtain ⟨m,hm⟩:=h1; exact DataW.trod_lt m _ _ _ hm
  have lt2 : ∀ x ∈ p2,x.block < W.heap.size:=by obtain ⟨m,hm⟩:=h2; exact DataW.trod_lt m _ _ _ hm
  obtain ⟨la,lc,l,e0,f0⟩ : ∃ a c l,v0=.slice a l.length c∧RecsL W.heap.size W a c l:=by
   obtain ⟨a,len,cap,rfl⟩:=okWide_slice Tryd.underlying34 (hval 0 34 v0 rfl rfl)
   obtain ⟨fuel,hf⟩:=h0
   exact recs_of_trod (by simpa [Value.cells] using hf)
  obtain ⟨ma,mc,m,e1,f1⟩ : ∃ a c l,v1=.slice a l.length c∧RecsL W.heap.size W a c l:=by
   obtain ⟨a,len,cap,rfl⟩:=okWide_slice Tryd.underlying34 (hval 1 34 v1 rfl rfl)
   obtain ⟨fuel,hf⟩:=h1
   exact recs_of_trod (by simpa [Value.cells] using hf)
  obtain ⟨k,e2⟩ : ∃ k,v2=.int .i64 k:=by
   obtain ⟨x,rfl,_⟩:=open_int Tryd.underlying3 (hval 2 3 v2 rfl rfl) h2
   exact ⟨x,rfl⟩
  clear hA0 hval0 hval
  have hcall : Calls Tryd.prog 4 #[v0,v1,v2] W fun e w' => e=.returned (.bool true)∧Hid (Below W.heap.size W w'):=by
   rw [e0,e1,e2]
   exact Go.Proofs.YtfaggdkiffhdbaaDoor.diskKeeps W.heap.size W he (Nat.le_refl _) la ma lc mc l m k f0 f1
  refine hcall.mono fun e W' ⟨he,bel'⟩ => ?_
  have bel:=bel'.out
  subst he
  exact ⟨_,rfl,_,_,_,[],_,[],hW',trodAll_mk1 (shut_bool Tryd.underlying4 _),
   (trodAll_cons_mk (Below.trod laidOut (by kernel_rfl) (of_decide_eq_true (by kernel_rfl)) h0 bel lt0)
    (trodAll_cons_mk (Below.trod laidOut (by kernel_rfl) (of_decide_eq_true (by kernel_rfl)) h1 bel lt1)
     (trodAll_cons_mk (Below.trod laidOut (by kernel_rfl) (of_decide_eq_true (by kernel_rfl)) h2 bel lt2) trodAll_mk0))),rfl,bel.frame _,fun h => by cases h⟩
 refine key.mono fun e W' ⟨v,he,hp⟩ => ?_
 subst he
 exact ChangeSpec.post_blind hp

set_option maxHeartbeats 2000000 in
theorem over : Rows.diskKeepsRow.holds Tryd.pinned (OpenSpec.ofChange Rows.diskKeepsSpec) :=
 OpenClaim.holds_of_wide 4 Tryd.f4 rfl rfl rfl rfl rfl rfl rfl ⟨rfl,rfl,rfl,rfl,rfl⟩ rfl rfl rfl rfl rfl (by as_aux_lemma => kernel_rfl) Tryd.func4 (by as_aux_lemma => kernel_rfl)
  (of_decide_eq_true (by as_aux_lemma => kernel_rfl)) (by unfold Func.isWrapper; first | (rw [if_pos (by decide +kernel)]; kernel_rfl) | (rw [if_neg (by decide +kernel)]; exact ⟨rfl,rfl⟩))
  (fun os started H enc _ => lifted os started H enc)

end Go.Proofs.YtfaggdkiffhdbaaDoor.diskKeeps

namespace Go.Proofs.YtfaggdkiffhdbaaDoor
open Go
/-- The statement: the tied card. -/
theorem diskKeeps_proved : Rows.DiskKeepsCardSaid :=
 Claim7.holds_tied_plain_at .later [] [.data,.data,.data,.data,.sentinel,.sentinel,.pinned] true (true,"2558b340ba76d9bf663388ae19f093d34566423ac1cfe761f03b13dd2767a75b") true
  diskKeeps.over (fun _ h => by cases h) (by kernel_rfl) (fun _ h => by cases h) diskKeeps_row_tie rfl ⟨rfl,rfl⟩ (by kernel_rfl) rfl
  (fun f fn hf hfn => by
   obtain rfl : f=4:=Option.some.inj ((show Tryd.prog.funcNamed "wanderer/wandererlaw.DiskKeeps"=some 4 by kernel_rfl).symm.trans hf) |>.symm
   obtain rfl : fn=Tryd.f4:=(Option.some.inj (Tryd.func4.symm.trans hfn)).symm
   exact ⟨by kernel_rfl,fun j t ht => by
    rw [Tryd.params4] at ht
    have h3 : t=34∨t=3:=by
     rcases j with _ | _ | _ | j
     ·left; simpa using ht.symm
     ·left; simpa using ht.symm
     ·right; simpa using ht.symm
     ·simp at ht
    rcases h3 with rfl | rfl
    ·exact (show Tryd.prog.wantsStandIn 34=false by kernel_rfl)
    ·exact (show Tryd.prog.wantsStandIn 3=false by kernel_rfl)⟩)
  (by kernel_rfl)
#print axioms diskKeeps_proved
end Go.Proofs.YtfaggdkiffhdbaaDoor
