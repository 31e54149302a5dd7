/- One text: what it reads as is a program, of which Print says it. -/
import Derived.Test.YtipnjoahobplhaaGreatDoorPart44
import Derived.Test.YtipnjoahobplhaaGreatDoorPart46
import Derived.Test.YtipnjoahobplhaaGreatDoorPart2
import Derived.Test.YtipnjoahobplhaaGreatDoorPart32
import Derived.Test.YtipnjoahobplhaaGreatDoorQRead
import Derived.Test.YtipnjoahobplhaaGreatDoorPart50
import Derived.Test.YtipnjoahobplhaaGreatDoorPart30
namespace Go.Proofs.YtipnjoahobplhaaGreatDoor
open Go.RowKit Go.Maps
def countsL : List UInt8:=[102,117,110,32,48,32,49,32,123,32,115,101,116,32,48,32,51,32,119,104,105,108,101,32,118,48,32,123,32,115,97,121,32,102,49,32,118,48,32,118,48,32,103,111,32,118,48,32,112,97,117,115,101,32,115,101,116,32,48,32,45,32,118,48,32,49,32,125,32,125,32,102,117,110,32,50,32,50,32,123,32,114,101,116,117,114,110,32,42,32,118,48,32,118,49,32,125]
end Go.Proofs.YtipnjoahobplhaaGreatDoor
namespace Go.Proofs.YtipnjoahobplhaaGreatDoor
open Go.RowKit
def cntI : Nat→List (List Int)
 | 0 => [[1,1,3,0],[2,0,1,0],[2,1,0,0],[13,1,16,0],[2,1,0,0],[2,2,0,0],[7,1,1,0,1,2],[9,1,0,0],[2,1,0,0],[11,1,0,0],[10,0,0,0],[2,1,0,0],[1,2,1,0],[3,1,1,2,2],[2,0,1,0],[12,0,2,0],[1,1,0,0],[8,1,0,0]]
 | _ => [[2,2,0,0],[2,3,1,0],[3,2,2,3,3],[8,2,0,0],[1,2,0,0],[8,2,0,0]]
def cntPar (j : Nat) : Int:=if j = 0 then 0 else 2
theorem cnt_n : rqN (wordsOf (bs countsL)) = 2:=by decide +kernel
theorem cnt_par : rqP (wordsOf (bs countsL)) 0 = 0∧rqP (wordsOf (bs countsL)) 1 = 2:=by decide +kernel
theorem cnt_code : codedM 2 (rqP (wordsOf (bs countsL))) (rqL (wordsOf (bs countsL))) 6 (rqB (wordsOf (bs countsL))) 0 = some (cntI 0)∧codedM 2 (rqP (wordsOf (bs countsL))) (rqL (wordsOf (bs countsL))) 6 (rqB (wordsOf (bs countsL))) 1 = some (cntI 1):=by decide +kernel
def cntP : Nat→Pc:=pcOf cntPar cntI
theorem cnt_right : codeErr 2 cntP = 0:=by decide +kernel
def newS (P : Nat→Pc) : Sta:=⟨[⟨0,0,List.replicate (P 0).regs.toNat (0,0),0⟩],[],0,0⟩
def wakeS (S : Sta) : Sta:=⟨S.fs,S.cs,0,0⟩
def cntS1 : Sta:=(runM cntP 100 ⟨newS cntP,[],false⟩).1.s
def cntS2 : Sta:=wakeS cntS1
def cntS3 : Sta:=(runM cntP 1 ⟨cntS2,[],false⟩).1.s
theorem cnt_run1 : (runM cntP 100 ⟨newS cntP,[],false⟩).1.said = [9]∧cntS1.st = 3:=by decide +kernel
theorem cnt_run2 : (runM cntP 1 ⟨cntS2,[],false⟩).1.said = []∧(runM cntP 1 ⟨cntS2,[],false⟩).2 = 1∧cntS3.st = 0:=by decide +kernel
theorem cnt_run3 : (runM cntP 100 ⟨cntS3,[],false⟩).1.said = [4]:=by decide +kernel
end Go.Proofs.YtipnjoahobplhaaGreatDoor
namespace Go.Proofs.YtipnjoahobplhaaGreatDoor
open Go.RowKit Go.Maps
def toksFewB : Nat→SL→Bool
 | 0,_ => true
 | d + 1,T => (List.range T.len).all fun i => decide ((T.nd i).ne ≤ 1000) && (decide ((T.nd i).nf ≤ 1000) && (decide ((T.nd i).kind ≠ 2) && (toksFewB d (T.sub i false) && toksFewB d (T.sub i true))))
theorem toksFew_of : ∀ {d : Nat} {T : SL},toksFewB d T = true→toksFew d T
 | 0,_,_ => trivial
 | d + 1,T,h => fun i hi => by
  have:=List.all_eq_true.1 h i (List.mem_range.2 hi)
  simp only [Bool.and_eq_true,decide_eq_true_eq] at this
  obtain ⟨h1,h2,h3,h4,h5⟩:=this
  exact ⟨h1,h2,h3,toksFew_of h4,toksFew_of h5⟩
theorem cnt_few : toksFewB 6 (rqB (wordsOf (bs countsL)) 0) = true∧toksFewB 6 (rqB (wordsOf (bs countsL)) 1) = true:=by decide +kernel
theorem cnt_left : rqLeft (wordsOf (bs countsL)) = ([],true):=by decide +kernel
theorem cnt_loc : rqL (wordsOf (bs countsL)) 0 = 1∧rqL (wordsOf (bs countsL)) 1 = 2:=by decide +kernel
theorem cnt_err : progErr 2 (rqP (wordsOf (bs countsL))) (rqL (wordsOf (bs countsL))) 6 (rqB (wordsOf (bs countsL))) = 0:=by decide +kernel
theorem cnt_text : bs (textL (progW 2 (rqP (wordsOf (bs countsL))) (rqL (wordsOf (bs countsL))) 6 (rqB (wordsOf (bs countsL))))) = bs countsL:=by decide +kernel
theorem cnt_good : rqGood 6 (bs countsL):=by
 refine ⟨by rw [cnt_n]; decide,fun i hi => ?_,cnt_left,by rw [cnt_n]; exact cnt_err,by rw [cnt_n]; exact cnt_text⟩
 rw [cnt_n] at hi
 obtain rfl | rfl : i = 0 ∨ i = 1:=by omega
 ·rw [cnt_par.1]; decide
 ·rw [cnt_par.2]; decide
theorem counts_lit2 : bs countsL = ⟨([102,117,110,32,48,32,49,32,123,32,115,101,116,32,48,32,51,32,119,104,105,108,101,32,118,48,32,123,32,115,97,121,32,102,49,32,118,48,32,118,48,32,103,111,32,118,48,32].append [112,97,117,115,101,32,115,101,116,32,48,32,45,32,118,48,32,49,32,125,32,125,32,102,117,110,32,50,32,50,32,123,32,114,101,116,117,114,110,32,42,32,118,48,32,118,49,32,125]).toArray⟩:=by unfold countsL; rfl
set_option maxRecDepth 20000 in
set_option maxHeartbeats 4000000 in
theorem programC (N : Nat) (w : World) (hN : N ≤ w.heap.size) (he : Env N w) (hsp : Spc N w) : Calls Tryz.prog 46 #[] w fun e w' => ∃ v,e = .returned v∧Hid (RqAt 6 (bs countsL) w' v)∧Hid (Below w.heap.size w w'):=by
 have hG:=cnt_good
 have hsz : (bs countsL).size ≤ 60000:=by rw [bs_size]; decide
 have hlit:=counts_lit2
 generalize bs countsL = s at *
 have HP : Hid (Calls Tryz.prog 86 #[.string ⟨([102,117,110,32,48,32,49,32,123,32,115,101,116,32,48,32,51,32,119,104,105,108,101,32,118,48,32,123,32,115,97,121,32,102,49,32,118,48,32,118,48,32,103,111,32,118,48,32].append [112,97,117,115,101,32,115,101,116,32,48,32,45,32,118,48,32,49,32,125,32,125,32,102,117,110,32,50,32,50,32,123,32,114,101,116,117,114,110,32,42,32,118,48,32,118,49,32,125]).toArray⟩] w fun e w' => ∃ v,e = .returned (.tuple #[v,.int .i64 0])∧Hid (RqAt 6 s w' v)∧Hid (Below w.heap.size w w')):=by
  rw [← hlit]
  refine (sourceRead N 6 s hsz (by decide) w hN he hsp).mono ?_
  rintro e w' ⟨⟨_,v,rfl,h⟩ | ⟨h,_⟩,hb⟩
  ·exact ⟨v,rfl,h,hb⟩
  ·exact absurd hG h.out
 clear he hsp hG hsz hlit
 go_enter Tryz.func46,Tryz.ntmps46
 go_wp2_with (go_at_call 86; refine HP.out.mono ?_; rintro e w1 ⟨v,rfl,P1,b1⟩)
 go_ret
 exact ⟨v,rfl,P1,b1⟩
theorem codedCnt (v : Value) (w : World) (h : RqAt 6 (bs countsL) w v) : Calls Tryz.prog 45 #[v] w fun e w' => ∃ a c,e = .returned (.slice a 2 c)∧Hid (ProcsAt w'.heap.size w' (.slice a 2 c) 2 cntP)∧Hid (Below w.heap.size w w'):=by
 obtain ⟨bv,h1,h2⟩:=h
 rw [cnt_n] at h1 h2
 refine (codedC w.heap.size v 2 _ _ bv 6 _ cntI w (Nat.le_refl _) h1 h2 (fun i hi => ?_) (fun i hi => ?_) (fun i hi => ?_) (by decide)).mono ?_
 ·obtain rfl | rfl : i = 0 ∨ i = 1:=by omega
  ·exact toksFew_of cnt_few.1
  ·exact toksFew_of cnt_few.2
 ·obtain rfl | rfl : i = 0 ∨ i = 1:=by omega
  ·rw [cnt_loc.1]; decide
  ·rw [cnt_loc.2]; decide
 ·obtain rfl | rfl : i = 0 ∨ i = 1:=by omega
  ·exact ⟨cnt_code.1,by decide⟩
  ·exact ⟨cnt_code.2,by decide⟩
 ·rintro e w' ⟨a,c,rfl,h,hb⟩
  refine ⟨a,c,rfl,h.out.congr fun j hj => ?_,hb⟩
  obtain rfl | rfl : j = 0 ∨ j = 1:=by omega
  ·show pcOf _ _ _ = pcOf _ _ _
   unfold pcOf
   rw [cnt_par.1]; rfl
  ·show pcOf _ _ _ = pcOf _ _ _
   unfold pcOf
   rw [cnt_par.2]; rfl
theorem Box4.lt {t : TypeId} {X : Nat} {w : World} {a b c d : Value} (h : Box4 t X w a b c d) : X < w.heap.size:=(Array.getElem?_eq_some_iff.1 h).1
theorem eqOne {B : Nat} {w : World} {v : Value} {x : Int} (h : NOwn B w v [x]) : Calls Tryz.prog 25 #[v,.slice (some ⟨w.heap.size,0,none⟩) 1 1] (w.alloc (.cells #[.int .i64 x] 3)) fun e w' => e = .returned (.bool true)∧Below w.heap.size w w':=by
 have h1:=(h.below (below_alloc w (.cells #[.int .i64 x] 3))).nums (by simp)
 refine (eqNums _ _ _ 1 1 (lz [x]) (lz [x]) _ h1 ⟨_,_,rfl,by omega,Or.inr ⟨w.heap.size,0,rfl,by simp,fun i hi => ?_⟩⟩).mono ?_
 ·obtain rfl : i = 0:=by omega
  rw [Nat.zero_add,World.cell?_alloc_new]; rfl
 ·rintro e w' ⟨rfl,hb⟩
  exact ⟨ret_bool (eqB_yes fun _ _ => rfl),below_step (below_alloc w _) hb⟩
set_option maxRecDepth 20000 in
set_option maxHeartbeats 8000000 in
theorem ran_core (S0 S1 S2 S3 S4 : Sta) (k1 k4 : Nat) (w : World) (Pg PA : World→Value→Prop)
  (HPg : Hid (Calls Tryz.prog 46 #[] w fun e w' => ∃ v,e = .returned v∧Hid (Pg w' v)∧Hid (Below w.heap.size w w')))
  (HCd : Hid (∀ v wk,Pg wk v→Calls Tryz.prog 45 #[v] wk fun e w' => ∃ a c,e = .returned (.slice a 2 c)∧Hid (PA w' (.slice a 2 c))∧Hid (Below wk.heap.size wk w')))
  (HN : Hid (∀ a c wk wj,PA wk (.slice a 2 c)→Below wk.heap.size wk wj→Calls Tryz.prog 13 #[.slice a 2 c] wj (StaK wj S0)))
  (HR1 : Hid (∀ a c fa fc ca cc wk wj B,PA wk (.slice a 2 c)→Below wk.heap.size wk wj→SOwn B wj (.slice fa S0.fs.length fc) (.slice ca S0.cs.length cc) S0→Calls Tryz.prog 14 #[.slice a 2 c,.agg #[.slice fa S0.fs.length fc,.slice ca S0.cs.length cc,.int .i64 S0.st,.int .i64 S0.wh],.int .i64 100] wj (RunK wj S1 [9] k1)))
  (HWk : Hid (∀ a c fa fc ca cc wk wj B,PA wk (.slice a 2 c)→Below wk.heap.size wk wj→SOwn B wj (.slice fa S1.fs.length fc) (.slice ca S1.cs.length cc) S1→Calls Tryz.prog 15 #[.slice a 2 c,.agg #[.slice fa S1.fs.length fc,.slice ca S1.cs.length cc,.int .i64 S1.st,.int .i64 S1.wh]] wj (StaK wj S2)))
  (HR2 : Hid (∀ a c fa fc ca cc wk wj B,PA wk (.slice a 2 c)→Below wk.heap.size wk wj→SOwn B wj (.slice fa S2.fs.length fc) (.slice ca S2.cs.length cc) S2→Calls Tryz.prog 14 #[.slice a 2 c,.agg #[.slice fa S2.fs.length fc,.slice ca S2.cs.length cc,.int .i64 S2.st,.int .i64 S2.wh],.int .i64 1] wj (RunK wj S3 [] 1)))
  (HR3 : Hid (∀ a c fa fc ca cc wk wj B,PA wk (.slice a 2 c)→Below wk.heap.size wk wj→SOwn B wj (.slice fa S3.fs.length fc) (.slice ca S3.cs.length cc) S3→Calls Tryz.prog 14 #[.slice a 2 c,.agg #[.slice fa S3.fs.length fc,.slice ca S3.cs.length cc,.int .i64 S3.st,.int .i64 S3.wh],.int .i64 100] wj (RunK wj S4 [4] k4)))
  (HCk : Hid (∀ a c fa fc ca cc wk wj B,PA wk (.slice a 2 c)→Below wk.heap.size wk wj→SOwn B wj (.slice fa S3.fs.length fc) (.slice ca S3.cs.length cc) S3→Calls Tryz.prog 21 #[.slice a 2 c,.agg #[.slice fa S3.fs.length fc,.slice ca S3.cs.length cc,.int .i64 S3.st,.int .i64 S3.wh]] wj fun e w' => e = .returned (.int .i64 0)∧Below wj.heap.size wj w')) :
  Calls Tryz.prog 17 #[] w fun e w' => e = .returned (.bool true)∧Below w.heap.size w w':=by
 go_enter Tryz.func17,Tryz.ntmps17
 go_upto_region 3 with (first
  | (go_at_call 13; refine (HN.out _ _ _ _ PA2.out (Below.refl _ _)).mono ?_; rintro e w3 ⟨fa0,fc0,ca0,cc0,rfl,SO0,b3⟩)
  | (go_at_call 45; refine (HCd.out _ _ PG1.out).mono ?_; rintro e w2 ⟨pa,pc,rfl,PA2,HB2⟩)
  | (go_at_call 46; refine HPg.out.mono ?_; rintro e w1 ⟨v1,rfl,PG1,HB1⟩))
 have HX2 : Hid (w2.heap.size ≤ w3.heap.size):=b3.size
 obtain ⟨W3,hW3⟩ : ∃ W3,w3.alloc (.cells #[.slice fa0 S0.fs.length fc0,.slice ca0 S0.cs.length cc0,.int .i64 S0.st,.int .i64 S0.wh] 26) = W3:=⟨_,rfl⟩
 rw [hW3]
 have Bx3 : Hid (Box4 26 w3.heap.size W3 (.slice fa0 S0.fs.length fc0) (.slice ca0 S0.cs.length cc0) (.int .i64 S0.st) (.int .i64 S0.wh)):=by
  show Box4 _ _ _ _ _ _ _
  unfold Box4
  rw [← hW3]; exact heap_alloc_new w3 _
 have b3' : Below w3.heap.size w3 W3:=hW3 ▸ below_alloc w3 _
 have HB3 : Hid (Below w2.heap.size w2 W3):=below_step b3 b3'
 have SP0 : Hid (SOwn w2.heap.size W3 (.slice fa0 S0.fs.length fc0) (.slice ca0 S0.cs.length cc0) S0):=SO0.out.below b3'
 obtain ⟨x0,x1,x2,x3,x4⟩:=Bx3.out.at
 clear hW3 b3 b3' SO0
 generalize w3.heap.size = X at *
 go_upto_region 4 with (go_at_call 14; refine (HR1.out _ _ _ _ _ _ _ _ _ PA2.out HB3.out SP0.out).mono ?_; rintro e w4 ⟨fa1,fc1,ca1,cc1,sa,sc,rfl,SO1,NA4,b4⟩; have Bx4:=Bx3.out.keep (b4.block X (Bx3.out.lt)); obtain ⟨y0,y1,y2,y3,y4⟩:=Bx4.at)
 have HBx4:=(show Hid _ from Bx4)
 have Hb4:=(show Hid _ from b4)
 clear y0 y1 y2 y3 y4 x0 x1 x2 x3 x4 Bx4 b4
 obtain ⟨W4,hW4,Bxx,hk,hs,hb,_⟩:=box_put (.slice fa1 S1.fs.length fc1) (.slice ca1 S1.cs.length cc1) (.int .i64 S1.st) (.int .i64 S1.wh) HBx4.out
 rw [hW4]
 have Bx4 : Hid (Box4 26 X W4 (.slice fa1 S1.fs.length fc1) (.slice ca1 S1.cs.length cc1) (.int .i64 S1.st) (.int .i64 S1.wh)):=Bxx
 have HK4 : Hid (∀ B,X < B→∀ k,B ≤ k→k < w4.heap.size→W4.heap[k]? = w4.heap[k]?):=fun B hB k h1 h2 => hk k (by omega)
 have HB4 : Hid (Below w2.heap.size w2 W4):=((HB3.out).trans (Hb4.out.mono HB3.out.size)).trans (hb _ HX2.out)
 have SP1 : Hid (SOwn W3.heap.size W4 (.slice fa1 S1.fs.length fc1) (.slice ca1 S1.cs.length cc1) S1):=SO1.out.stay (HK4.out _ Bx3.out.lt)
 obtain ⟨x0,x1,x2,x3,x4⟩:=Bxx.at
 clear hW4 hk hs hb Bxx SO1
 have NA5 : Hid (NOwn W3.heap.size W4 (.slice sa 1 sc) [9]):=NA4.out.stay (HK4.out _ Bx3.out.lt)
 clear NA4
 go_upto_region 5 with (go_at_call 15; refine (HWk.out _ _ _ _ _ _ _ _ _ PA2.out HB4.out SP1.out).mono ?_; rintro e w5 ⟨fa2,fc2,ca2,cc2,rfl,SO2,b5⟩; have Bx5:=Bx4.out.keep (b5.block X (Bx4.out.lt)); obtain ⟨y0,y1,y2,y3,y4⟩:=Bx5.at)
 have HBx5:=(show Hid _ from Bx5)
 have Hb5:=(show Hid _ from b5)
 clear y0 y1 y2 y3 y4 x0 x1 x2 x3 x4 Bx5 b5
 obtain ⟨W5,hW5,Bxx,hk,hs,hb,_⟩:=box_put (.slice fa2 S2.fs.length fc2) (.slice ca2 S2.cs.length cc2) (.int .i64 S2.st) (.int .i64 S2.wh) HBx5.out
 rw [hW5]
 have Bx5 : Hid (Box4 26 X W5 (.slice fa2 S2.fs.length fc2) (.slice ca2 S2.cs.length cc2) (.int .i64 S2.st) (.int .i64 S2.wh)):=Bxx
 have HK5 : Hid (∀ B,X < B→∀ k,B ≤ k→k < w5.heap.size→W5.heap[k]? = w5.heap[k]?):=fun B hB k h1 h2 => hk k (by omega)
 have HB5 : Hid (Below w2.heap.size w2 W5):=((HB4.out).trans (Hb5.out.mono HB4.out.size)).trans (hb _ HX2.out)
 have SP2 : Hid (SOwn W4.heap.size W5 (.slice fa2 S2.fs.length fc2) (.slice ca2 S2.cs.length cc2) S2):=SO2.out.stay (HK5.out _ Bx4.out.lt)
 obtain ⟨x0,x1,x2,x3,x4⟩:=Bxx.at
 clear hW5 hk hs hb Bxx SO2
 have NA6 : Hid (NOwn W3.heap.size W5 (.slice sa 1 sc) [9]):=(NA5.out.below Hb5.out).stay (HK5.out _ Bx3.out.lt)
 clear NA5
 go_upto_region 6 with (go_at_call 14; refine (HR2.out _ _ _ _ _ _ _ _ _ PA2.out HB5.out SP2.out).mono ?_; rintro e w6 ⟨fa3,fc3,ca3,cc3,sb,sbc,rfl,SO3,NB6,b6⟩; have Bx6:=Bx5.out.keep (b6.block X (Bx5.out.lt)); obtain ⟨y0,y1,y2,y3,y4⟩:=Bx6.at)
 have HBx6:=(show Hid _ from Bx6)
 have Hb6:=(show Hid _ from b6)
 clear y0 y1 y2 y3 y4 x0 x1 x2 x3 x4 Bx6 b6
 obtain ⟨W6,hW6,Bxx,hk,hs,hb,_⟩:=box_put (.slice fa3 S3.fs.length fc3) (.slice ca3 S3.cs.length cc3) (.int .i64 S3.st) (.int .i64 S3.wh) HBx6.out
 rw [hW6]
 have Bx6 : Hid (Box4 26 X W6 (.slice fa3 S3.fs.length fc3) (.slice ca3 S3.cs.length cc3) (.int .i64 S3.st) (.int .i64 S3.wh)):=Bxx
 have HK6 : Hid (∀ B,X < B→∀ k,B ≤ k→k < w6.heap.size→W6.heap[k]? = w6.heap[k]?):=fun B hB k h1 h2 => hk k (by omega)
 have HB6 : Hid (Below w2.heap.size w2 W6):=((HB5.out).trans (Hb6.out.mono HB5.out.size)).trans (hb _ HX2.out)
 have SP3 : Hid (SOwn W5.heap.size W6 (.slice fa3 S3.fs.length fc3) (.slice ca3 S3.cs.length cc3) S3):=SO3.out.stay (HK6.out _ Bx5.out.lt)
 obtain ⟨x0,x1,x2,x3,x4⟩:=Bxx.at
 clear hW6 hk hs hb Bxx SO3
 have NA7 : Hid (NOwn W3.heap.size W6 (.slice sa 1 sc) [9]):=(NA6.out.below Hb6.out).stay (HK6.out _ Bx3.out.lt)
 clear NA6 NB6
 go_upto_region 7 with (go_at_call 14; refine (HR3.out _ _ _ _ _ _ _ _ _ PA2.out HB6.out SP3.out).mono ?_; rintro e w7 ⟨fa4,fc4,ca4,cc4,sd,sdc,rfl,SO4,ND7,b7⟩)
 obtain ⟨W7,hW7⟩ : ∃ W7,w7.alloc (.cells #[.slice fa4 S4.fs.length fc4,.slice ca4 S4.cs.length cc4,.int .i64 S4.st,.int .i64 S4.wh] 26) = W7:=⟨_,rfl⟩
 rw [hW7]
 have b7' : Below w7.heap.size w7 W7:=hW7 ▸ below_alloc w7 _
 have HB67 : Hid (Below W6.heap.size W6 W7):=below_step b7 b7'
 have HB7 : Hid (Below w2.heap.size w2 W7):=below_step HB6.out HB67.out
 have HNA : Hid (NOwn W3.heap.size W7 (.slice sa 1 sc) [9]):=NA7.out.below HB67.out
 have HND : Hid (NOwn W6.heap.size W7 (.slice sd 1 sdc) [4]):=ND7.out.below b7'
 have HSP : Hid (∀ wk,Below W7.heap.size W7 wk→SOwn W5.heap.size wk (.slice fa3 S3.fs.length fc3) (.slice ca3 S3.cs.length cc3) S3∧Below w2.heap.size w2 wk∧Box4 26 X wk (.slice fa3 S3.fs.length fc3) (.slice ca3 S3.cs.length cc3) (.int .i64 S3.st) (.int .i64 S3.wh)):=fun wk hk =>
  ⟨SP3.out.below (below_step HB67.out hk),below_step HB7.out hk,Bx6.out.keep ((below_step HB67.out hk).block X Bx6.out.lt)⟩
 clear hW7 b7 b7' x0 x1 x2 x3 x4 SO4
 go_wp2_with (first
  | (go_at_call 21; refine (HCk.out _ _ _ _ _ _ _ _ _ PA2.out h9.2.1 h9.1).mono ?_; rintro e w10 ⟨rfl,b10⟩)
  | (go_at_call 25; refine (eqOne (HND.out.below b8)).mono ?_; rintro e w9 ⟨rfl,b9'⟩; have b9:=below_step b8 b9'; have h9:=HSP.out _ b9; obtain ⟨x0,x1,x2,x3,x4⟩:=h9.2.2.at)
  | (go_at_call 25; refine (eqOne HNA.out).mono ?_; rintro e w8 ⟨rfl,b8⟩))
 go_ret
 refine ⟨rfl,?_⟩
 have h2 : Below w2.heap.size w2 w10:=below_step h9.2.1 b10
 exact below_step (below_step HB1.out HB2.out) h2
theorem cnt_e0 : runErr 2 cntP (newS cntP) 100 = 0:=by decide +kernel
theorem cnt_e1 : vmErr 2 cntP cntS1 = 0:=by decide +kernel
theorem cnt_e2 : runErr 2 cntP cntS2 1 = 0:=by decide +kernel
theorem cnt_e3 : runErr 2 cntP cntS3 100 = 0:=by decide +kernel
theorem ran (N : Nat) (w : World) (hN : N ≤ w.heap.size) (he : Env N w) (hsp : Spc N w) : Calls Tryz.prog 17 #[] w fun e w' => e = .returned (.bool true)∧Below w.heap.size w w':=by
 have r0:=runErr_right cnt_e0
 have r1:=vmErr_right cnt_e1
 have r2:=runErr_right cnt_e2
 have r3:=runErr_right cnt_e3
 have hup : ∀ {v : Value} {wk wj : World},ProcsAt wk.heap.size wk v 2 cntP→Below wk.heap.size wk wj→ProcsAt wk.heap.size wj v 2 cntP:=fun h hb => h.below hb
 refine ran_core (newS cntP) cntS1 cntS2 cntS3 (runM cntP 100 ⟨cntS3,[],false⟩).1.s (runM cntP 100 ⟨newS cntP,[],false⟩).2 (runM cntP 100 ⟨cntS3,[],false⟩).2 w (RqAt 6 (bs countsL)) (fun wk v => ProcsAt wk.heap.size wk v 2 cntP)
  (programC N w hN he hsp) (fun v wk h => codedCnt v wk h)
  (fun a c wk wj h hb => newK wk.heap.size _ wj hb.size (hup h hb) cnt_right)
  (fun a c fa fc ca cc wk wj B h hb ho => ?_) (fun a c fa fc ca cc wk wj B h hb ho => ?_) (fun a c fa fc ca cc wk wj B h hb ho => ?_) (fun a c fa fc ca cc wk wj B h hb ho => ?_) (fun a c fa fc ca cc wk wj B h hb ho => ?_)
 ·have:=runK wk.heap.size _ _ _ (newS cntP) 100 wj hb.size (hup h hb) (ho.at r0.1 r0.2.1) cnt_e0
  rw [cnt_run1.1] at this
  exact this
 ·exact wakeK wk.heap.size _ _ _ cntS1 wj hb.size (hup h hb) (ho.at r1.1 r1.2.1) cnt_e1 cnt_run1.2
 ·have:=runK wk.heap.size _ _ _ cntS2 1 wj hb.size (hup h hb) (ho.at r2.1 r2.2.1) cnt_e2
  rw [cnt_run2.1,cnt_run2.2.1] at this
  exact this
 ·have:=runK wk.heap.size _ _ _ cntS3 100 wj hb.size (hup h hb) (ho.at r3.1 r3.2.1) cnt_e3
  rw [cnt_run3] at this
  exact this
 ·have:=vmCheck wk.heap.size _ _ _ 2 cntP cntS3 wj hb.size (hup h hb) (ho.at r3.1 r3.2.1)
  rw [r3.2.2.2.2.2] at this
  exact this
end Go.Proofs.YtipnjoahobplhaaGreatDoor
