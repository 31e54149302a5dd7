/- One text: what it reads as is a program, of which Print says it. -/
import Derived.Test.YtfaokaohhchdhaaGreatDoorPart46
import Derived.Test.YtfaokaohhchdhaaGreatDoorPart30
import Derived.Test.YtfaokaohhchdhaaGreatDoorPart22
import Derived.Test.YtfaokaohhchdhaaGreatDoorPart33
import Derived.Test.YtfaokaohhchdhaaGreatDoorQRead
import Derived.Test.YtfaokaohhchdhaaGreatDoorPart49
import Derived.Test.YtfaokaohhchdhaaGreatDoorPart32
import Derived.Test.YtfaokaohhchdhaaGreatDoorPart27
import Derived.Test.YtfaokaohhchdhaaGreatDoorVmSwpW
import Derived.Test.YtfaokaohhchdhaaGreatDoorPart12
import Derived.Deep.RegionHeld3
import Derived.Test.YtfaokaohhchdhaaGreatDoorPart4
import Derived.Deep.SlicePairs
namespace Go.Proofs.YtfaokaohhchdhaaGreatDoor
open Go.RowKit Go.Maps
def countsL : List UInt8:=[102,117,110,32,48,32,49,32,123,32,115,101,116,32,48,32,51,32,119,104,105,108,101,32,118,48,32,123,32,115,97,121,32,102,49,32,118,48,32,118,48,32,103,111,32,118,48,32,112,97,117,115,101,32,115,101,116,32,48,32,45,32,118,48,32,49,32,125,32,125,32,102,117,110,32,50,32,50,32,123,32,114,101,116,117,114,110,32,42,32,118,48,32,118,49,32,125]
end Go.Proofs.YtfaokaohhchdhaaGreatDoor
namespace Go.Proofs.YtfaokaohhchdhaaGreatDoor
open Go.RowKit
def cntI : Nat→List (List Int)
 | 0 => [[1,1,3,0],[2,0,1,0],[2,1,0,0],[13,1,16,0],[2,1,0,0],[2,2,0,0],[7,1,1,0,1,2],[9,1,0,0],[2,1,0,0],[11,1,0,0],[10,0,0,0],[2,1,0,0],[1,2,1,0],[3,1,1,2,2],[2,0,1,0],[12,0,2,0],[1,1,0,0],[8,1,0,0]]
 | _ => [[2,2,0,0],[2,3,1,0],[3,2,2,3,3],[8,2,0,0],[1,2,0,0],[8,2,0,0]]
def cntPar (j : Nat) : Int:=if j=0 then 0 else 2
theorem cnt_n : rqN (wordsOf (bs countsL))=2:=by decide +kernel
theorem cnt_par : rqP (wordsOf (bs countsL)) 0=0∧rqP (wordsOf (bs countsL)) 1=2:=by decide +kernel
theorem cnt_code : codedM 2 (rqP (wordsOf (bs countsL))) (rqL (wordsOf (bs countsL))) 6 (rqB (wordsOf (bs countsL))) 0=some (cntI 0)∧codedM 2 (rqP (wordsOf (bs countsL))) (rqL (wordsOf (bs countsL))) 6 (rqB (wordsOf (bs countsL))) 1=some (cntI 1):=by decide +kernel
def cntP : Nat→Pc:=pcOf cntPar cntI
theorem cnt_right : codeErr 2 cntP=0:=by decide +kernel
def newS (P : Nat→Pc) : Sta:=⟨[⟨0,0,List.replicate (P 0).regs.toNat (0,0),0⟩],[],0,0⟩
def wakeS (S : Sta) : Sta:=⟨S.fs,S.cs,0,0⟩
def cntS1 : Sta:=(runM cntP 100 ⟨newS cntP,[],false⟩).1.s
def cntS2 : Sta:=wakeS cntS1
def cntS3 : Sta:=(runM cntP 1 ⟨cntS2,[],false⟩).1.s
theorem cnt_run1 : (runM cntP 100 ⟨newS cntP,[],false⟩).1.said=[9]∧cntS1.st=3:=by decide +kernel
theorem cnt_run2 : (runM cntP 1 ⟨cntS2,[],false⟩).1.said=[]∧(runM cntP 1 ⟨cntS2,[],false⟩).2=1∧cntS3.st=0:=by decide +kernel
theorem cnt_run3 : (runM cntP 100 ⟨cntS3,[],false⟩).1.said=[4]:=by decide +kernel
end Go.Proofs.YtfaokaohhchdhaaGreatDoor
namespace Go.Proofs.YtfaokaohhchdhaaGreatDoor
open Go.RowKit Go.Maps
def toksFewB : Nat→SL→Bool
 | 0,_ => true
 | d + 1,T => (List.range T.len).all fun i => decide ((T.nd i).ne≤1000) && (decide ((T.nd i).nf≤1000) && (decide ((T.nd i).kind ≠ 2) && (toksFewB d (T.sub i false) && toksFewB d (T.sub i true))))
theorem toksFew_of : ∀ {d : Nat} {T : SL},toksFewB d T=true→toksFew d T
 | 0,_,_ => trivial
 | d + 1,T,h => fun i hi => by
  have:=List.all_eq_true.1 h i (List.mem_range.2 hi)
  simp only [Bool.and_eq_true,decide_eq_true_eq] at this
  obtain ⟨h1,h2,h3,h4,h5⟩:=this
  exact ⟨h1,h2,h3,toksFew_of h4,toksFew_of h5⟩
theorem cnt_few : toksFewB 6 (rqB (wordsOf (bs countsL)) 0)=true∧toksFewB 6 (rqB (wordsOf (bs countsL)) 1)=true:=by decide +kernel
theorem cnt_left : rqLeft (wordsOf (bs countsL))=([],true):=by decide +kernel
theorem cnt_loc : rqL (wordsOf (bs countsL)) 0=1∧rqL (wordsOf (bs countsL)) 1=2:=by decide +kernel
theorem cnt_err : progErr 2 (rqP (wordsOf (bs countsL))) (rqL (wordsOf (bs countsL))) 6 (rqB (wordsOf (bs countsL)))=0:=by decide +kernel
theorem cnt_text : bs (textL (progW 2 (rqP (wordsOf (bs countsL))) (rqL (wordsOf (bs countsL))) 6 (rqB (wordsOf (bs countsL)))))=bs countsL:=by decide +kernel
theorem cnt_good : rqGood 6 (bs countsL):=by
 refine ⟨by rw [cnt_n]; decide,fun i hi => ?_,cnt_left,by rw [cnt_n]; exact cnt_err,by rw [cnt_n]; exact cnt_text⟩
 rw [cnt_n] at hi
 obtain rfl | rfl : i=0∨i=1:=by omega
 ·rw [cnt_par.1]; decide
 ·rw [cnt_par.2]; decide
theorem counts_lit2 : bs countsL=⟨([102,117,110,32,48,32,49,32,123,32,115,101,116,32,48,32,51,32,119,104,105,108,101,32,118,48,32,123,32,115,97,121,32,102,49,32,118,48,32,118,48,32,103,111,32,118,48,32].append [112,97,117,115,101,32,115,101,116,32,48,32,45,32,118,48,32,49,32,125,32,125,32,102,117,110,32,50,32,50,32,123,32,114,101,116,117,114,110,32,42,32,118,48,32,118,49,32,125]).toArray⟩:=by unfold countsL; rfl
set_option maxRecDepth 20000 in
set_option maxHeartbeats 4000000 in
theorem programC (N : Nat) (w : World) (hN : N≤w.heap.size) (he : Env N w) (hsp : Spc N w) : Calls Tryz.prog 51 #[] w fun e w' => ∃ v,e=.returned v∧Hid (RqAt 6 (bs countsL) w' v)∧Hid (Below w.heap.size w w'):=by
 have hG:=cnt_good
 have hsz : (bs countsL).size≤60000:=by rw [bs_size]; decide
 have hlit:=counts_lit2
 generalize bs countsL=s at *
 have HP : Hid (Calls Tryz.prog 104 #[.string ⟨([102,117,110,32,48,32,49,32,123,32,115,101,116,32,48,32,51,32,119,104,105,108,101,32,118,48,32,123,32,115,97,121,32,102,49,32,118,48,32,118,48,32,103,111,32,118,48,32].append [112,97,117,115,101,32,115,101,116,32,48,32,45,32,118,48,32,49,32,125,32,125,32,102,117,110,32,50,32,50,32,123,32,114,101,116,117,114,110,32,42,32,118,48,32,118,49,32,125]).toArray⟩] w fun e w' => ∃ v,e=.returned (.tuple #[v,.int .i64 0])∧Hid (RqAt 6 s w' v)∧Hid (Below w.heap.size w w')):=by
  rw [← hlit]
  refine (sourceRead N 6 s hsz (by decide) w hN he hsp).mono ?_
  rintro e w' ⟨⟨_,v,rfl,h⟩ | ⟨h,_⟩,hb⟩
  ·exact ⟨v,rfl,h,hb⟩
  ·exact absurd hG h.out
 clear he hsp hG hsz hlit
 go_enter Tryz.func51,Tryz.ntmps51
 go_wp2_with (go_at_call 104; refine HP.out.mono ?_; rintro e w1 ⟨v,rfl,P1,b1⟩)
 go_ret
 exact ⟨v,rfl,P1,b1⟩
theorem codedCnt (v : Value) (w : World) (h : RqAt 6 (bs countsL) w v) : Calls Tryz.prog 50 #[v] w fun e w' => ∃ a c,e=.returned (.slice a 2 c)∧Hid (ProcsAt w'.heap.size w' (.slice a 2 c) 2 cntP)∧Hid (Below w.heap.size w w'):=by
 obtain ⟨bv,h1,h2⟩:=h
 rw [cnt_n] at h1 h2
 refine (codedC w.heap.size v 2 _ _ bv 6 _ cntI w (Nat.le_refl _) h1 h2 (fun i hi => ?_) (fun i hi => ?_) (fun i hi => ?_) (by decide)).mono ?_
 ·obtain rfl | rfl : i=0∨i=1:=by omega
  ·exact toksFew_of cnt_few.1
  ·exact toksFew_of cnt_few.2
 ·obtain rfl | rfl : i=0∨i=1:=by omega
  ·rw [cnt_loc.1]; decide
  ·rw [cnt_loc.2]; decide
 ·obtain rfl | rfl : i=0∨i=1:=by omega
  ·exact ⟨cnt_code.1,by decide⟩
  ·exact ⟨cnt_code.2,by decide⟩
 ·rintro e w' ⟨a,c,rfl,h,hb⟩
  refine ⟨a,c,rfl,h.out.congr fun j hj => ?_,hb⟩
  obtain rfl | rfl : j=0∨j=1:=by omega
  ·show pcOf _ _ _=pcOf _ _ _
   unfold pcOf
   rw [cnt_par.1]; rfl
  ·show pcOf _ _ _=pcOf _ _ _
   unfold pcOf
   rw [cnt_par.2]; rfl
theorem Box4.lt {t : TypeId} {X : Nat} {w : World} {a b c d : Value} (h : Box4 t X w a b c d) : X < w.heap.size:=(Array.getElem?_eq_some_iff.1 h).1
theorem eqOne {B : Nat} {w : World} {v : Value} {x : Int} (h : NOwn B w v [x]) : Calls Tryz.prog 24 #[v,.slice (some ⟨w.heap.size,0,none⟩) 1 1] (w.alloc (.cells #[.int .i64 x] 3)) fun e w' => e=.returned (.bool true)∧Below w.heap.size w w':=by
 have h1:=(h.below (below_alloc w (.cells #[.int .i64 x] 3))).nums (by simp)
 refine (eqNums _ _ _ 1 1 (lz [x]) (lz [x]) _ h1 ⟨_,_,rfl,by omega,Or.inr ⟨w.heap.size,0,rfl,by simp,fun i hi => ?_⟩⟩).mono ?_
 ·obtain rfl : i=0:=by omega
  rw [Nat.zero_add,World.cell?_alloc_new]; rfl
 ·rintro e w' ⟨rfl,hb⟩
  exact ⟨ret_bool (eqB_yes fun _ _ => rfl),below_step (below_alloc w _) hb⟩
set_option maxRecDepth 20000 in
set_option maxHeartbeats 8000000 in
theorem ran_core (S0 S1 S2 S3 S4 : Sta) (k1 k4 : Nat) (w : World) (Pg PA : World→Value→Prop)
  (HPg : Hid (Calls Tryz.prog 51 #[] w fun e w' => ∃ v,e=.returned v∧Hid (Pg w' v)∧Hid (Below w.heap.size w w')))
  (HCd : Hid (∀ v wk,Pg wk v→Calls Tryz.prog 50 #[v] wk fun e w' => ∃ a c,e=.returned (.slice a 2 c)∧Hid (PA w' (.slice a 2 c))∧Hid (Below wk.heap.size wk w')))
  (HN : Hid (∀ a c wk wj,PA wk (.slice a 2 c)→Below wk.heap.size wk wj→Calls Tryz.prog 12 #[.slice a 2 c] wj (StaK wj S0)))
  (HR1 : Hid (∀ a c fa fc ca cc wk wj B,PA wk (.slice a 2 c)→Below wk.heap.size wk wj→SOwn B wj (.slice fa S0.fs.length fc) (.slice ca S0.cs.length cc) S0→Calls Tryz.prog 13 #[.slice a 2 c,.agg #[.slice fa S0.fs.length fc,.slice ca S0.cs.length cc,.int .i64 S0.st,.int .i64 S0.wh],.int .i64 100] wj (RunK wj S1 [9] k1)))
  (HWk : Hid (∀ a c fa fc ca cc wk wj B,PA wk (.slice a 2 c)→Below wk.heap.size wk wj→SOwn B wj (.slice fa S1.fs.length fc) (.slice ca S1.cs.length cc) S1→Calls Tryz.prog 14 #[.slice a 2 c,.agg #[.slice fa S1.fs.length fc,.slice ca S1.cs.length cc,.int .i64 S1.st,.int .i64 S1.wh]] wj (StaK wj S2)))
  (HR2 : Hid (∀ a c fa fc ca cc wk wj B,PA wk (.slice a 2 c)→Below wk.heap.size wk wj→SOwn B wj (.slice fa S2.fs.length fc) (.slice ca S2.cs.length cc) S2→Calls Tryz.prog 13 #[.slice a 2 c,.agg #[.slice fa S2.fs.length fc,.slice ca S2.cs.length cc,.int .i64 S2.st,.int .i64 S2.wh],.int .i64 1] wj (RunK wj S3 [] 1)))
  (HR3 : Hid (∀ a c fa fc ca cc wk wj B,PA wk (.slice a 2 c)→Below wk.heap.size wk wj→SOwn B wj (.slice fa S3.fs.length fc) (.slice ca S3.cs.length cc) S3→Calls Tryz.prog 13 #[.slice a 2 c,.agg #[.slice fa S3.fs.length fc,.slice ca S3.cs.length cc,.int .i64 S3.st,.int .i64 S3.wh],.int .i64 100] wj (RunK wj S4 [4] k4)))
  (HCk : Hid (∀ a c fa fc ca cc wk wj B,PA wk (.slice a 2 c)→Below wk.heap.size wk wj→SOwn B wj (.slice fa S3.fs.length fc) (.slice ca S3.cs.length cc) S3→Calls Tryz.prog 20 #[.slice a 2 c,.agg #[.slice fa S3.fs.length fc,.slice ca S3.cs.length cc,.int .i64 S3.st,.int .i64 S3.wh]] wj fun e w' => e=.returned (.int .i64 0)∧Below wj.heap.size wj w')) :
  Calls Tryz.prog 16 #[] w fun e w' => e=.returned (.bool true)∧Below w.heap.size w w':=by
 go_enter Tryz.func16,Tryz.ntmps16
 go_upto_region 3 with (first
  | (go_at_call 12; refine (HN.out _ _ _ _ PA2.out (Below.refl _ _)).mono ?_; rintro e w3 ⟨fa0,fc0,ca0,cc0,rfl,SO0,b3⟩)
  | (go_at_call 50; refine (HCd.out _ _ PG1.out).mono ?_; rintro e w2 ⟨pa,pc,rfl,PA2,HB2⟩)
  | (go_at_call 51; refine HPg.out.mono ?_; rintro e w1 ⟨v1,rfl,PG1,HB1⟩))
 have HX2 : Hid (w2.heap.size≤w3.heap.size):=b3.size
 obtain ⟨W3,hW3⟩ : ∃ W3,w3.alloc (.cells #[.slice fa0 S0.fs.length fc0,.slice ca0 S0.cs.length cc0,.int .i64 S0.st,.int .i64 S0.wh] 26)=W3:=⟨_,rfl⟩
 rw [hW3]
 have Bx3 : Hid (Box4 26 w3.heap.size W3 (.slice fa0 S0.fs.length fc0) (.slice ca0 S0.cs.length cc0) (.int .i64 S0.st) (.int .i64 S0.wh)):=by
  show Box4 _ _ _ _ _ _ _
  unfold Box4
  rw [← hW3]; exact heap_alloc_new w3 _
 have b3' : Below w3.heap.size w3 W3:=hW3 ▸ below_alloc w3 _
 have HB3 : Hid (Below w2.heap.size w2 W3):=below_step b3 b3'
 have SP0 : Hid (SOwn w2.heap.size W3 (.slice fa0 S0.fs.length fc0) (.slice ca0 S0.cs.length cc0) S0):=SO0.out.below b3'
 obtain ⟨x0,x1,x2,x3,x4⟩:=Bx3.out.at
 clear hW3 b3 b3' SO0
 generalize w3.heap.size=X at *
 go_upto_region 4 with (go_at_call 13; refine (HR1.out _ _ _ _ _ _ _ _ _ PA2.out HB3.out SP0.out).mono ?_; rintro e w4 ⟨fa1,fc1,ca1,cc1,sa,sc,rfl,SO1,NA4,b4⟩; have Bx4:=Bx3.out.keep (b4.block X (Bx3.out.lt)); obtain ⟨y0,y1,y2,y3,y4⟩:=Bx4.at)
 have HBx4:=(show Hid _ from Bx4)
 have Hb4:=(show Hid _ from b4)
 clear y0 y1 y2 y3 y4 x0 x1 x2 x3 x4 Bx4 b4
 obtain ⟨W4,hW4,Bxx,hk,hs,hb,_⟩:=box_put (.slice fa1 S1.fs.length fc1) (.slice ca1 S1.cs.length cc1) (.int .i64 S1.st) (.int .i64 S1.wh) HBx4.out
 rw [hW4]
 have Bx4 : Hid (Box4 26 X W4 (.slice fa1 S1.fs.length fc1) (.slice ca1 S1.cs.length cc1) (.int .i64 S1.st) (.int .i64 S1.wh)):=Bxx
 have HK4 : Hid (∀ B,X < B→∀ k,B≤k→k < w4.heap.size→W4.heap[k]?=w4.heap[k]?):=fun B hB k h1 h2 => hk k (by omega)
 have HB4 : Hid (Below w2.heap.size w2 W4):=((HB3.out).trans (Hb4.out.mono HB3.out.size)).trans (hb _ HX2.out)
 have SP1 : Hid (SOwn W3.heap.size W4 (.slice fa1 S1.fs.length fc1) (.slice ca1 S1.cs.length cc1) S1):=SO1.out.stay (HK4.out _ Bx3.out.lt)
 obtain ⟨x0,x1,x2,x3,x4⟩:=Bxx.at
 clear hW4 hk hs hb Bxx SO1
 have NA5 : Hid (NOwn W3.heap.size W4 (.slice sa 1 sc) [9]):=NA4.out.stay (HK4.out _ Bx3.out.lt)
 clear NA4
 go_upto_region 5 with (go_at_call 14; refine (HWk.out _ _ _ _ _ _ _ _ _ PA2.out HB4.out SP1.out).mono ?_; rintro e w5 ⟨fa2,fc2,ca2,cc2,rfl,SO2,b5⟩; have Bx5:=Bx4.out.keep (b5.block X (Bx4.out.lt)); obtain ⟨y0,y1,y2,y3,y4⟩:=Bx5.at)
 have HBx5:=(show Hid _ from Bx5)
 have Hb5:=(show Hid _ from b5)
 clear y0 y1 y2 y3 y4 x0 x1 x2 x3 x4 Bx5 b5
 obtain ⟨W5,hW5,Bxx,hk,hs,hb,_⟩:=box_put (.slice fa2 S2.fs.length fc2) (.slice ca2 S2.cs.length cc2) (.int .i64 S2.st) (.int .i64 S2.wh) HBx5.out
 rw [hW5]
 have Bx5 : Hid (Box4 26 X W5 (.slice fa2 S2.fs.length fc2) (.slice ca2 S2.cs.length cc2) (.int .i64 S2.st) (.int .i64 S2.wh)):=Bxx
 have HK5 : Hid (∀ B,X < B→∀ k,B≤k→k < w5.heap.size→W5.heap[k]?=w5.heap[k]?):=fun B hB k h1 h2 => hk k (by omega)
 have HB5 : Hid (Below w2.heap.size w2 W5):=((HB4.out).trans (Hb5.out.mono HB4.out.size)).trans (hb _ HX2.out)
 have SP2 : Hid (SOwn W4.heap.size W5 (.slice fa2 S2.fs.length fc2) (.slice ca2 S2.cs.length cc2) S2):=SO2.out.stay (HK5.out _ Bx4.out.lt)
 obtain ⟨x0,x1,x2,x3,x4⟩:=Bxx.at
 clear hW5 hk hs hb Bxx SO2
 have NA6 : Hid (NOwn W3.heap.size W5 (.slice sa 1 sc) [9]):=(NA5.out.below Hb5.out).stay (HK5.out _ Bx3.out.lt)
 clear NA5
 go_upto_region 6 with (go_at_call 13; refine (HR2.out _ _ _ _ _ _ _ _ _ PA2.out HB5.out SP2.out).mono ?_; rintro e w6 ⟨fa3,fc3,ca3,cc3,sb,sbc,rfl,SO3,NB6,b6⟩; have Bx6:=Bx5.out.keep (b6.block X (Bx5.out.lt)); obtain ⟨y0,y1,y2,y3,y4⟩:=Bx6.at)
 have HBx6:=(show Hid _ from Bx6)
 have Hb6:=(show Hid _ from b6)
 clear y0 y1 y2 y3 y4 x0 x1 x2 x3 x4 Bx6 b6
 obtain ⟨W6,hW6,Bxx,hk,hs,hb,_⟩:=box_put (.slice fa3 S3.fs.length fc3) (.slice ca3 S3.cs.length cc3) (.int .i64 S3.st) (.int .i64 S3.wh) HBx6.out
 rw [hW6]
 have Bx6 : Hid (Box4 26 X W6 (.slice fa3 S3.fs.length fc3) (.slice ca3 S3.cs.length cc3) (.int .i64 S3.st) (.int .i64 S3.wh)):=Bxx
 have HK6 : Hid (∀ B,X < B→∀ k,B≤k→k < w6.heap.size→W6.heap[k]?=w6.heap[k]?):=fun B hB k h1 h2 => hk k (by omega)
 have HB6 : Hid (Below w2.heap.size w2 W6):=((HB5.out).trans (Hb6.out.mono HB5.out.size)).trans (hb _ HX2.out)
 have SP3 : Hid (SOwn W5.heap.size W6 (.slice fa3 S3.fs.length fc3) (.slice ca3 S3.cs.length cc3) S3):=SO3.out.stay (HK6.out _ Bx5.out.lt)
 obtain ⟨x0,x1,x2,x3,x4⟩:=Bxx.at
 clear hW6 hk hs hb Bxx SO3
 have NA7 : Hid (NOwn W3.heap.size W6 (.slice sa 1 sc) [9]):=(NA6.out.below Hb6.out).stay (HK6.out _ Bx3.out.lt)
 clear NA6 NB6
 go_upto_region 7 with (go_at_call 13; refine (HR3.out _ _ _ _ _ _ _ _ _ PA2.out HB6.out SP3.out).mono ?_; rintro e w7 ⟨fa4,fc4,ca4,cc4,sd,sdc,rfl,SO4,ND7,b7⟩)
 obtain ⟨W7,hW7⟩ : ∃ W7,w7.alloc (.cells #[.slice fa4 S4.fs.length fc4,.slice ca4 S4.cs.length cc4,.int .i64 S4.st,.int .i64 S4.wh] 26)=W7:=⟨_,rfl⟩
 rw [hW7]
 have b7' : Below w7.heap.size w7 W7:=hW7 ▸ below_alloc w7 _
 have HB67 : Hid (Below W6.heap.size W6 W7):=below_step b7 b7'
 have HB7 : Hid (Below w2.heap.size w2 W7):=below_step HB6.out HB67.out
 have HNA : Hid (NOwn W3.heap.size W7 (.slice sa 1 sc) [9]):=NA7.out.below HB67.out
 have HND : Hid (NOwn W6.heap.size W7 (.slice sd 1 sdc) [4]):=ND7.out.below b7'
 have HSP : Hid (∀ wk,Below W7.heap.size W7 wk→SOwn W5.heap.size wk (.slice fa3 S3.fs.length fc3) (.slice ca3 S3.cs.length cc3) S3∧Below w2.heap.size w2 wk∧Box4 26 X wk (.slice fa3 S3.fs.length fc3) (.slice ca3 S3.cs.length cc3) (.int .i64 S3.st) (.int .i64 S3.wh)):=fun wk hk =>
  ⟨SP3.out.below (below_step HB67.out hk),below_step HB7.out hk,Bx6.out.keep ((below_step HB67.out hk).block X Bx6.out.lt)⟩
 clear hW7 b7 b7' x0 x1 x2 x3 x4 SO4
 go_wp2_with (first
  | (go_at_call 20; refine (HCk.out _ _ _ _ _ _ _ _ _ PA2.out h9.2.1 h9.1).mono ?_; rintro e w10 ⟨rfl,b10⟩)
  | (go_at_call 24; refine (eqOne (HND.out.below b8)).mono ?_; rintro e w9 ⟨rfl,b9'⟩; have b9:=below_step b8 b9'; have h9:=HSP.out _ b9; obtain ⟨x0,x1,x2,x3,x4⟩:=h9.2.2.at)
  | (go_at_call 24; refine (eqOne HNA.out).mono ?_; rintro e w8 ⟨rfl,b8⟩))
 go_ret
 refine ⟨rfl,?_⟩
 have h2 : Below w2.heap.size w2 w10:=below_step h9.2.1 b10
 exact below_step (below_step HB1.out HB2.out) h2
theorem cnt_e0 : runErr 2 cntP (newS cntP) 100=0:=by decide +kernel
theorem cnt_e1 : vmErr 2 cntP cntS1=0:=by decide +kernel
theorem cnt_e2 : runErr 2 cntP cntS2 1=0:=by decide +kernel
theorem cnt_e3 : runErr 2 cntP cntS3 100=0:=by decide +kernel
theorem ran (N : Nat) (w : World) (hN : N≤w.heap.size) (he : Env N w) (hsp : Spc N w) : Calls Tryz.prog 16 #[] w fun e w' => e=.returned (.bool true)∧Below w.heap.size w w':=by
 have r0:=runErr_right cnt_e0
 have r1:=vmErr_right cnt_e1
 have r2:=runErr_right cnt_e2
 have r3:=runErr_right cnt_e3
 have hup : ∀ {v : Value} {wk wj : World},ProcsAt wk.heap.size wk v 2 cntP→Below wk.heap.size wk wj→ProcsAt wk.heap.size wj v 2 cntP:=fun h hb => h.below hb
 refine ran_core (newS cntP) cntS1 cntS2 cntS3 (runM cntP 100 ⟨cntS3,[],false⟩).1.s (runM cntP 100 ⟨newS cntP,[],false⟩).2 (runM cntP 100 ⟨cntS3,[],false⟩).2 w (RqAt 6 (bs countsL)) (fun wk v => ProcsAt wk.heap.size wk v 2 cntP)
  (programC N w hN he hsp) (fun v wk h => codedCnt v wk h)
  (fun a c wk wj h hb => newK wk.heap.size _ wj hb.size (hup h hb) cnt_right)
  (fun a c fa fc ca cc wk wj B h hb ho => ?_) (fun a c fa fc ca cc wk wj B h hb ho => ?_) (fun a c fa fc ca cc wk wj B h hb ho => ?_) (fun a c fa fc ca cc wk wj B h hb ho => ?_) (fun a c fa fc ca cc wk wj B h hb ho => ?_)
 ·have:=runK wk.heap.size _ _ _ (newS cntP) 100 wj hb.size (hup h hb) (ho.at r0.1 r0.2.1) cnt_e0
  rw [cnt_run1.1] at this
  exact this
 ·exact wakeK wk.heap.size _ _ _ cntS1 wj hb.size (hup h hb) (ho.at r1.1 r1.2.1) cnt_e1 cnt_run1.2
 ·have:=runK wk.heap.size _ _ _ cntS2 1 wj hb.size (hup h hb) (ho.at r2.1 r2.2.1) cnt_e2
  rw [cnt_run2.1,cnt_run2.2.1] at this
  exact this
 ·have:=runK wk.heap.size _ _ _ cntS3 100 wj hb.size (hup h hb) (ho.at r3.1 r3.2.1) cnt_e3
  rw [cnt_run3] at this
  exact this
 ·have:=vmCheck wk.heap.size _ _ _ 2 cntP cntS3 wj hb.size (hup h hb) (ho.at r3.1 r3.2.1)
  rw [r3.2.2.2.2.2] at this
  exact this
def StaGood (np : Nat) (P : Nat→Pc) (S : Sta) : Prop:=CodeOK np P∧StaOK np P S∧codeErr np P=0
theorem StaGood.err {np : Nat} {P : Nat→Pc} {S : Sta} (h : StaGood np P S) : vmErr np P S=0:=by unfold vmErr; rw [if_pos h.2.2]; exact staErr_zero.2 h.2.1
theorem StaGood.run {np : Nat} {P : Nat→Pc} {S : Sta} (h : StaGood np P S) (h0 : S.st=0) {f : Nat} (hf : f≤2000) : runErr np P S f=0:=by
 unfold runErr
 rw [if_pos h.err,if_neg (by omega),if_pos h0]
def TrueC (k : FuncId) (w : World) : Prop:=∀ wk,Below w.heap.size w wk→Calls Tryz.prog k #[] wk fun e w' => e=.returned (.bool true)∧Below wk.heap.size wk w'
theorem TrueC.up {k : FuncId} {w w' : World} (h : TrueC k w) (hb : Below w.heap.size w w') : TrueC k w':=fun wk hk => h wk (below_step hb hk)
end Go.Proofs.YtfaokaohhchdhaaGreatDoor
namespace Go.Proofs.YtfaokaohhchdhaaGreatDoor
section
variable {np : Nat} {P : Nat→Pc} {S : Sta}
structure Slc (np : Nat) (P : Nat→Pc) (S : Sta) (K : Nat) (b : Sta) : Prop where
 rdy : rdyN P S K
 eqv : Eqv (stN P S K) b
 ok : StaOK np P b
theorem Slc.start (hS : StaOK np P S) (h : Eqv S S) : Slc np P S 0 S:=⟨fun j hj => absurd hj (by omega),h,hS⟩
theorem Slc.step (hc : CodeOK np P) (hS : StaOK np P S) {K : Nat} {b : Sta} (h : Slc np P S K b) (f : Nat) :
  (runM P f ⟨b,[],false⟩).2≤f∧Slc np P S (K + (runM P f ⟨b,[],false⟩).2) (sweptS (runM P f ⟨b,[],false⟩).1.s)∧sdN P S (K + (runM P f ⟨b,[],false⟩).2)=sdN P S K ++ (runM P f ⟨b,[],false⟩).1.said∧StaOK np P (runM P f ⟨b,[],false⟩).1.s:=by
 obtain ⟨k,k1,k2,k3,k4,k5,_⟩:=runM_slice P b f
 obtain ⟨m1,m2,m3,m4⟩:=slice_more hc hS h.ok h.rdy h.eqv k5
 rw [k2]
 show k≤f∧Slc np P S (K + k) (sweptS (itM P ⟨b,[],false⟩ k).s)∧sdN P S (K + k)=sdN P S K ++ (itM P ⟨b,[],false⟩ k).said∧StaOK np P (itM P ⟨b,[],false⟩ k).s
 rw [k3,k4]
 exact ⟨k1,⟨m3,m1.trans (eqv_swept hc m4),m4.swept hc⟩,m2,m4⟩
theorem whole_step {K j f : Nat} (hr : rdyN P S K) (hj : j < K) (hf : 0 < f) :
  0 < (runM P f ⟨stN P S j,[],false⟩).2∧(runM P f ⟨stN P S j,[],false⟩).2≤f∧(runM P f ⟨stN P S j,[],false⟩).1.s=stN P S (j + (runM P f ⟨stN P S j,[],false⟩).2)∧sdN P S (j + (runM P f ⟨stN P S j,[],false⟩).2)=sdN P S j ++ (runM P f ⟨stN P S j,[],false⟩).1.said:=by
 obtain ⟨k,k1,k2,k3,k4,k5,k6⟩:=runM_slice P (stN P S j) f
 have hk:=k6 (hr j hj) hf
 rw [k2]
 show 0 < k∧k≤f∧(itM P ⟨stN P S j,[],false⟩ k).s=stN P S (j + k)∧sdN P S (j + k)=sdN P S j ++ (itM P ⟨stN P S j,[],false⟩ k).said
 rw [k3,k4,stN_add,sdN_add]
 exact ⟨hk,k1,rfl,rfl⟩
theorem Slc.swept (hc : CodeOK np P) (hS : StaOK np P S) {K : Nat} {b : Sta} (h : Slc np P S K b) : sweptS b=sweptS (stN P S K) :=
 let ⟨_,e⟩:=h.eqv
 Sim.swept hc (stN_right hc hS K h.rdy) h.ok e
theorem eqv_refl (hc : CodeOK np P) (hS : StaOK np P S) : Eqv S S:=(eqv_swept hc hS).trans (eqv_swept hc hS).symm
end
end Go.Proofs.YtfaokaohhchdhaaGreatDoor
namespace Go.Proofs.YtfaokaohhchdhaaGreatDoor
open Go.ChangeShapes Go.WideShapes Go.ChangeAt Go.RowKit Go.Deep
theorem cIns5 : Tryz.prog.cellsOf 84=5:=by kernel_rfl
theorem cProc3 : Tryz.prog.cellsOf 38=3:=by kernel_rfl
theorem cLInt1 : Tryz.prog.cellsOf 30=1:=by kernel_rfl
theorem cLIns1 : Tryz.prog.cellsOf 36=1:=by kernel_rfl
theorem cInt1 : Tryz.prog.cellsOf 3=1:=by kernel_rfl
theorem plainAt {w : World} {a : Addr} {v : Value} (h : w.cell? (a.add 0)=some v) : a=⟨a.block,a.off,none⟩:=by
 have hs:=World.cell?_spot h
 obtain ⟨b,o,s⟩:=a
 have hs' : s=none:=by simpa [Addr.add] using hs
 rw [hs']
theorem lenFive {α : Type} {l : List α} (h : l.length=5) : ∃ a b c d e,l=[a,b,c,d,e]:=by
 rcases l with _ | ⟨a,_ | ⟨b,_ | ⟨c,_ | ⟨d,_ | ⟨e,_ | ⟨f,l⟩⟩⟩⟩⟩⟩
 ·cases h
 ·cases h
 ·cases h
 ·cases h
 ·cases h
 ·exact ⟨a,b,c,d,e,rfl⟩
 ·simp at h
theorem lenThree {α : Type} {l : List α} (h : l.length=3) : ∃ a b c,l=[a,b,c]:=by
 rcases l with _ | ⟨a,_ | ⟨b,_ | ⟨c,_ | ⟨d,l⟩⟩⟩⟩
 ·cases h
 ·cases h
 ·cases h
 ·exact ⟨a,b,c,rfl⟩
 ·simp at h
theorem pick_lt {α : Type} [Inhabited α] {n : Nat} {p : Nat→α→Prop} (h : ∀ i,i < n→∃ x,p i x) : ∃ f : Nat→α,∀ i,i < n→p i (f i) :=
 ⟨fun i => if hi : i < n then Classical.choose (h i hi) else default,fun i hi => by
  show p i (if hi : i < n then Classical.choose (h i hi) else default)
  rw [dif_pos hi]; exact Classical.choose_spec (h i hi)⟩
section
variable {H : Type} {enc : TypeId×Value→H} {W : World} {base : Nat} {spare : Nat→Bool} {held : Bool}
theorem sliceEach {t e : TypeId} {fuel : Nat} {v : Value} {x : DataW H×List MemPlace} (ht : Tryz.prog.underlying t=some (.slice e)) (h : DataW.trod enc Tryz.prog W base spare held fuel t [v]=some x) :
  v=.slice none 0 0∨∃ (a : Addr) (len cap n : Nat),v=.slice (some a) len cap∧len≤9223372036854775807 ∧
   ∀ i,i < len→∃ cs y,W.cells? base (a.add (i * Tryz.prog.cellsOf e)) (Tryz.prog.cellsOf e)=some cs∧DataW.trod enc Tryz.prog W base spare held n e cs=some y:=by
 rcases DataW.trod_slice ht h with ⟨hcs,_⟩ | ⟨a,len,cap,elems,rest,n,hfu,hcs,rfl,hb,hl,hm,hlen,hel,_⟩
 ·exact Or.inl (by simpa using hcs)
 ·refine Or.inr ⟨a,len,cap,n,by simpa using hcs,by unfold maxLen at hm; omega,fun i hi => ?_⟩
  have key:=hel i hi
  rw [List.getElem?_eq_getElem (by omega)] at key
  obtain ⟨cs',h1,h2⟩:=Option.bind_eq_some_iff.1 key
  exact ⟨cs',_,h1,h2⟩
theorem nums_of_trod {fuel : Nat} {v : Value} {x : DataW H×List MemPlace} (h : DataW.trod enc Tryz.prog W base spare held fuel 30 [v]=some x) : ∃ n z,NumsAt W.heap.size W v n z:=by
 rcases sliceEach Tryz.underlying30 h with rfl | ⟨a,len,cap,n,rfl,hl,hi⟩
 ·exact ⟨0,fun _ => 0,none,0,rfl,by omega,Or.inl rfl⟩
 ·have each : ∀ i,i < len→∃ z : Int,W.cell? (a.add i)=some (.int .i64 z):=by
   intro i hlt
   obtain ⟨cs,y,h1,h2⟩:=hi i hlt
   rw [cInt1,Nat.mul_one] at h1
   obtain ⟨_,hlen,hcell⟩:=World.cells?_some h1
   obtain ⟨z,e,_,_⟩:=DataW.trod_int Tryz.underlying3 h2
   subst e
   have:=hcell 0 (by omega)
   rw [add_add,Nat.add_zero] at this
   exact ⟨z,by simpa using this⟩
  obtain ⟨z,hz⟩:=pick_lt each
  refine ⟨len,z,some a,cap,rfl,hl,?_⟩
  by_cases h0 : len=0
  ·exact Or.inl h0
  ·right
   have hp:=plainAt (hz 0 (by omega))
   refine ⟨a.block,a.off,by rw [hp],?_,fun i hlt => ?_⟩
   ·have:=cell_lt (hz 0 (by omega))
    simpa [Addr.add] using this
   ·have:=hz i hlt
    rw [hp,add_plain] at this
    exact this
theorem code_of_trod {fuel : Nat} {v : Value} {x : DataW H×List MemPlace} (h : DataW.trod enc Tryz.prog W base spare held fuel 36 [v]=some x) : ∃ n ins,CodeAt W.heap.size W v n ins:=by
 rcases sliceEach Tryz.underlying36 h with rfl | ⟨a,len,cap,n,rfl,hl,hi⟩
 ·exact ⟨0,fun _ => ⟨0,0,0,0,0,fun _ => 0⟩,none,0,rfl,by omega,Or.inl rfl⟩
 ·have each : ∀ i,i < len→∃ q : In,∃ va,W.cell? (a.add (i * 5))=some (.int .i64 q.op)∧W.cell? (a.add (i * 5 + 1))=some (.int .i64 q.a)∧W.cell? (a.add (i * 5 + 2))=some (.int .i64 q.b)∧W.cell? (a.add (i * 5 + 3))=some (.int .i64 q.c)∧W.cell? (a.add (i * 5 + 4))=some va∧NumsAt W.heap.size W va q.n q.z:=by
   intro i hlt
   obtain ⟨cs,y,h1,h2⟩:=hi i hlt
   rw [cIns5] at h1
   obtain ⟨_,hlen,hcell⟩:=World.cells?_some h1
   obtain ⟨xs,k,rfl,hxy,_,hxl,hf⟩:=DataW.trod_struct Tryz.underlying84 h2
   obtain ⟨y0,y1,y2,y3,y4,rfl⟩:=lenFive (l:=xs) hxl
   obtain ⟨v0,v1,v2,v3,v4,rfl⟩:=lenFive hlen
   have g0:=hf 0 _ rfl
   have g1:=hf 1 _ rfl
   have g2:=hf 2 _ rfl
   have g3:=hf 3 _ rfl
   have g4:=hf 4 _ rfl
   simp [cInt1,cLInt1] at g0 g1 g2 g3 g4
   have e0:=hcell 0 (by omega)
   have e1:=hcell 1 (by omega)
   have e2:=hcell 2 (by omega)
   have e3:=hcell 3 (by omega)
   have e4:=hcell 4 (by omega)
   obtain ⟨z0,q0,_,_⟩:=DataW.trod_int Tryz.underlying3 g0
   obtain ⟨z1,q1,_,_⟩:=DataW.trod_int Tryz.underlying3 g1
   obtain ⟨z2,q2,_,_⟩:=DataW.trod_int Tryz.underlying3 g2
   obtain ⟨z3,q3,_,_⟩:=DataW.trod_int Tryz.underlying3 g3
   simp at q0 q1 q2 q3
   subst q0 q1 q2 q3
   obtain ⟨m,z,hz⟩:=nums_of_trod g4
   rw [add_add] at e0 e1 e2 e3 e4
   exact ⟨⟨z0,z1,z2,z3,m,z⟩,v4,by simpa using e0,by simpa using e1,by simpa using e2,by simpa using e3,by simpa using e4,hz⟩
  haveI : Inhabited In:=⟨⟨0,0,0,0,0,fun _ => 0⟩⟩
  obtain ⟨q,hq⟩:=pick_lt each
  refine ⟨len,q,some a,cap,rfl,hl,?_⟩
  by_cases h0 : len=0
  ·exact Or.inl h0
  ·right
   obtain ⟨_,c0,_⟩:=hq 0 (by omega)
   have hp:=plainAt (v:=.int .i64 (q 0).op) (by simpa using c0)
   refine ⟨a.block,a.off,by rw [hp],?_,fun i hlt => ?_⟩
   ·have:=cell_lt c0
    simpa [Addr.add] using this
   ·obtain ⟨va,c0,c1,c2,c3,c4,s⟩:=hq i hlt
    rw [hp,add_plain] at c0 c1 c2 c3 c4
    exact ⟨va,c0,c1,c2,c3,c4,s⟩
theorem procs_of_trod {fuel : Nat} {v : Value} {x : DataW H×List MemPlace} (h : DataW.trod enc Tryz.prog W base spare held fuel 22 [v]=some x) : ∃ n P,ProcsAt W.heap.size W v n P:=by
 rcases sliceEach Tryz.underlying22 h with rfl | ⟨a,len,cap,n,rfl,hl,hi⟩
 ·exact ⟨0,fun _ => ⟨0,0,0,fun _ => ⟨0,0,0,0,0,fun _ => 0⟩⟩,none,0,rfl,by omega,Or.inl rfl⟩
 ·have each : ∀ i,i < len→∃ q : Pc,∃ vc,W.cell? (a.add (i * 3))=some (.int .i64 q.params)∧W.cell? (a.add (i * 3 + 1))=some (.int .i64 q.regs)∧W.cell? (a.add (i * 3 + 2))=some vc∧CodeAt W.heap.size W vc q.n q.ins:=by
   intro i hlt
   obtain ⟨cs,y,h1,h2⟩:=hi i hlt
   rw [cProc3] at h1
   obtain ⟨_,hlen,hcell⟩:=World.cells?_some h1
   obtain ⟨xs,k,rfl,hxy,_,hxl,hf⟩:=DataW.trod_struct Tryz.underlying38 h2
   obtain ⟨y0,y1,y2,rfl⟩:=lenThree (l:=xs) hxl
   obtain ⟨v0,v1,v2,rfl⟩:=lenThree hlen
   have g0:=hf 0 _ rfl
   have g1:=hf 1 _ rfl
   have g2:=hf 2 _ rfl
   simp [cInt1,cLIns1] at g0 g1 g2
   have e0:=hcell 0 (by omega)
   have e1:=hcell 1 (by omega)
   have e2:=hcell 2 (by omega)
   obtain ⟨z0,q0,_,_⟩:=DataW.trod_int Tryz.underlying3 g0
   obtain ⟨z1,q1,_,_⟩:=DataW.trod_int Tryz.underlying3 g1
   simp at q0 q1
   subst q0 q1
   obtain ⟨m,ins,hz⟩:=code_of_trod g2
   rw [add_add] at e0 e1 e2
   exact ⟨⟨z0,z1,m,ins⟩,v2,by simpa using e0,by simpa using e1,by simpa using e2,hz⟩
  haveI : Inhabited Pc:=⟨⟨0,0,0,fun _ => ⟨0,0,0,0,0,fun _ => 0⟩⟩⟩
  obtain ⟨q,hq⟩:=pick_lt each
  refine ⟨len,q,some a,cap,rfl,hl,?_⟩
  by_cases h0 : len=0
  ·exact Or.inl h0
  ·right
   obtain ⟨_,c0,_⟩:=hq 0 (by omega)
   have hp:=plainAt (v:=.int .i64 (q 0).params) (by simpa using c0)
   refine ⟨a.block,a.off,by rw [hp],?_,fun i hlt => ?_⟩
   ·have:=cell_lt c0
    simpa [Addr.add] using this
   ·obtain ⟨vc,c0,c1,c2,s⟩:=hq i hlt
    rw [hp,add_plain] at c0 c1 c2
    exact ⟨vc,c0,c1,c2,s⟩
end
end Go.Proofs.YtfaokaohhchdhaaGreatDoor
namespace Go.Proofs.YtfaokaohhchdhaaGreatDoor
open Go.ChangeShapes Go.WideShapes Go.ChangeAt Go.RowKit
structure NumsL (N : Nat) (w : World) (a : Option Addr) (c : Nat) (l : List Int) : Prop where
 le : l.length≤c
 big : c≤9223372036854775807
 nil : a=none→l=[]∧c=0
 one : ∀ p,a=some p→l=[]∨∃ b o,p=⟨b,o,none⟩∧b < N∧∀ i z,l[i]?=some z→w.cell? ⟨b,o + i,none⟩=some (.int .i64 z)
 fit : ∀ z ∈ l,-9223372036854775808≤z∧z≤9223372036854775807
theorem NumsL.below {N : Nat} {w w' : World} {a : Option Addr} {c : Nat} {l : List Int} (h : NumsL N w a c l) (hb : Below N w w') : NumsL N w' a c l:=by
 refine ⟨h.le,h.big,h.nil,fun p hp => ?_,h.fit⟩
 rcases h.one p hp with h0 | ⟨b,o,e,hlt,hc⟩
 ·exact Or.inl h0
 ·exact Or.inr ⟨b,o,e,hlt,fun i z hi => (hb.cell (p:=⟨b,o + i,none⟩) hlt).trans (hc i z hi)⟩
section
variable {H : Type} {enc : TypeId×Value→H} {W : World} {base : Nat} {spare : Nat→Bool} {held : Bool}
theorem list_of_trod {fuel : Nat} {v : Value} {x : DataW H×List MemPlace} (h : DataW.trod enc Tryz.prog W base spare held fuel 30 [v]=some x) : ∃ a c l,v=.slice a l.length c∧NumsL W.heap.size W a c l:=by
 have hc1 : Tryz.prog.cellsOf 3=1:=by kernel_rfl
 rcases open_ints Tryz.underlying30 Tryz.underlying3 hc1 h with ⟨e,_⟩ | ⟨p,len,cap,zs,e,_,hl,hm,hz,_,hcell,hwz⟩
 ·obtain rfl : v=.slice none 0 0:=by simpa using e
  exact ⟨none,0,[],rfl,⟨Nat.le_refl _,by omega,fun _ => ⟨rfl,rfl⟩,(fun p hp => by cases hp),(fun z hz => by cases hz)⟩⟩
 ·obtain rfl : v=.slice (some p) len cap:=by simpa using e
  have hlen : len≤zs.length:=by rw [hz]; split <;> omega
  have ht : (zs.take len).length=len:=by rw [List.length_take]; omega
  refine ⟨some p,cap,zs.take len,by rw [ht],⟨by omega,by unfold maxLen at hm; omega,(fun e => by cases e),(fun q hq => ?_),fun z hz => ?_⟩⟩
  ·cases hq
   by_cases h0 : len=0
   ·left; subst h0; rfl
   ·right
    obtain ⟨b,off,rfl,hc⟩:=ints_at hcell (by omega)
    have h1:=hc 0 (by omega)
    refine ⟨b,off,rfl,by have:=cell_lt h1; simpa using this,fun i z hi => ?_⟩
    have hil : i < len:=by have:=(List.getElem?_eq_some_iff.1 hi).1; omega
    rw [hc i (by omega)]
    rw [List.getElem?_take_of_lt hil] at hi
    simp [List.getD,hi]
  ·have:=hwz z (List.mem_of_mem_take hz)
   simp [Lit.wf] at this
   have e : IntKind.i64.min=-9223372036854775808:=by decide +kernel
   rw [e] at this
   exact this
end
end Go.Proofs.YtfaokaohhchdhaaGreatDoor
