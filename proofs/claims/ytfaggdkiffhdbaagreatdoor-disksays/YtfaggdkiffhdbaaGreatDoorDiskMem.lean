/- Disks in memory: rows of bytes, a row of records that grows. -/
import Derived.Test.YtfaggdkiffhdbaaGreatDoorPart23
import Derived.Lib.SlBytesConst
namespace Go.Proofs.YtfaggdkiffhdbaaGreatDoor
open Go.RowKit Go.Maps

/-- The bytes l lie there,below block N. -/
structure BytesL (N : Nat) (w : World) (a : Option Addr) (c : Nat) (l : List UInt8) : Prop where
 le : l.length≤c
 big : c≤9223372036854775807
 nil : a=none→l=[]∧c=0
 one : ∀ p,a=some p→l=[]∨∃ b o,p=⟨b,o,none⟩∧b < N∧∀ (i : Nat) (z : UInt8),l[i]?=some z→w.cell? ⟨b,o + i,none⟩=some (.int .u8 (z.toNat : Int))

theorem BytesL.below {N : Nat} {w w' : World} {a : Option Addr} {c : Nat} {l : List UInt8} (h : BytesL N w a c l) (hb : Below N w w') : BytesL N w' a c l:=by
 refine ⟨h.le,h.big,h.nil,fun p hp => ?_⟩
 rcases h.one p hp with h0 | ⟨b,o,e,hlt,hc⟩
 ·exact Or.inl h0
 ·exact Or.inr ⟨b,o,e,hlt,fun i z hi => (hb.cell (p:=⟨b,o + i,none⟩) hlt).trans (hc i z hi)⟩
theorem BytesL.up {N M : Nat} {w : World} {a : Option Addr} {c : Nat} {l : List UInt8} (h : BytesL N w a c l) (hm : N≤M) : BytesL M w a c l:=by
 refine ⟨h.le,h.big,h.nil,fun p hp => ?_⟩
 rcases h.one p hp with h0 | ⟨b,o,e,hlt,hc⟩
 ·exact Or.inl h0
 ·exact Or.inr ⟨b,o,e,by omega,hc⟩
theorem BytesL.none (N : Nat) (w : World) : BytesL N w .none 0 []:=⟨Nat.le_refl _,by omega,fun _ => ⟨rfl,rfl⟩,fun p hp => by cases hp⟩
theorem BytesL.place {N : Nat} {w : World} {a : Option Addr} {c : Nat} {l : List UInt8} (h : BytesL N w a c l) (h0 : 0 < l.length) : ∃ b o,a=some ⟨b,o,.none⟩∧b < N∧∀ (i : Nat) (z : UInt8),l[i]?=some z→w.cell? ⟨b,o + i,.none⟩=some (.int .u8 (z.toNat : Int)):=by
 cases a with
 | none => have:=(h.nil rfl).1; rw [this] at h0; simp at h0
 | some p =>
  rcases h.one p rfl with h1 | ⟨b,o,e,hb,hc⟩
  ·rw [h1] at h0; simp at h0
  ·exact ⟨b,o,by rw [e],hb,hc⟩

/-- Bytes as numbers. -/
def numsB (l : List UInt8) : List Int:=l.map fun b => (b.toNat : Int)
theorem numsB_len (l : List UInt8) : (numsB l).length=l.length:=by unfold numsB; simp
theorem numsB_of (l : List UInt8) : Lib.bytesOf (numsB l)=l:=by
 unfold numsB Lib.bytesOf
 rw [List.map_map]
 conv => rhs; rw [← List.map_id l]
 apply List.map_congr_left
 intro b _
 simp
theorem numsB_byte (l : List UInt8) : ∀ x ∈ numsB l,0≤x∧x < 256:=by
 intro x hx
 unfold numsB at hx
 obtain ⟨b,_,rfl⟩:=List.mem_map.1 hx
 have:=b.toNat_lt
 omega
theorem numsB_at {l : List UInt8} {i : Nat} (h : i < l.length) : ∃ z,l[i]?=some z∧(numsB l).getD i 0=(z.toNat : Int):=by
 refine ⟨l[i],List.getElem?_eq_getElem h,?_⟩
 unfold numsB
 rw [List.getD_eq_getElem?_getD,List.getElem?_map,List.getElem?_eq_getElem h]
 rfl
theorem BytesL.in {N : Nat} {w : World} {a : Option Addr} {c : Nat} {l : List UInt8} (h : BytesL N w a c l) : Lib.BytesIn w a l.length (numsB l):=by
 intro h0
 obtain ⟨b,o,e,_,hc⟩:=h.place h0
 refine ⟨b,o,e,fun i hi => ?_⟩
 obtain ⟨z,hz,e2⟩:=numsB_at hi
 rw [e2]
 exact hc i z hz

theorem zs5 (w : World) : (sizeOf 5).run Tryz.prog w=.ok 1 w:=by kernel_rfl
/-- A slice of bytes,cut in front; behind. -/
theorem bl_from (g o n c m : Nat) (h1 : m≤n) (w : World) : (Instr.slice 22 (.slice (some ⟨g,o,none⟩) n c) (some (.int .i64 (m : Nat))) none none).run Tryz.prog w=.ok (.slice (some ⟨g,if c=m then o else o + m,none⟩) (n - m) (c - m)) w:=by
 have hs3:=zs5
 simp [Instr.slice,Instr.sliceBounds,Instr.sliceBound,asIntOf,run_underlying Tryz.underlying22,hs3,go_sem]
 rw [if_pos h1]
 by_cases c : c=m
 ·rw [if_pos c,if_pos c]
 ·rw [if_neg c,if_neg c]
theorem bl_to (za : Option Addr) (n zc m : Nat) (h1 : m≤zc) (h2 : zc≤9223372036854775807) (ha : za=none→zc=0) (wk : World) : (Instr.slice 22 (.slice za n zc) none (some (.int .i64 (m : Nat))) none).run Tryz.prog wk=.ok (.slice za m zc) wk:=by
 have hs3:=zs5
 cases za with
 | none =>
  have h0:=ha rfl
  subst h0
  obtain rfl : m=0:=by omega
  simp [Instr.slice,Instr.sliceBounds,Instr.sliceBound,asIntOf,run_underlying Tryz.underlying22,hs3,go_sem]
 | some a =>
  simp [Instr.slice,Instr.sliceBounds,Instr.sliceBound,asIntOf,run_underlying Tryz.underlying22,hs3,go_sem]
  intro h; omega

/-- Bytes as a string. -/
theorem conv_bytes {N : Nat} {w : World} {a : Option Addr} {c : Nat} {l : List UInt8} (h : BytesL N w a c l) : (convert 22 9 (.slice a l.length c)).run Tryz.prog w=.ok (.string (bs l)) w:=by
 cases a with
 | none =>
  obtain ⟨rfl,rfl⟩:=h.nil rfl
  exact Lib.run_convert_nil_bytes w 22 9 5 0 Tryz.underlying22 Tryz.underlying5 Tryz.underlying9
 | some p =>
  refine run_convert_bytes_back w 22 9 5 p c l Tryz.underlying22 Tryz.underlying5 Tryz.underlying9 fun j hj => ?_
  rcases h.one p rfl with h1 | ⟨b,o,e,hb,hc⟩
  ·rw [h1] at hj; simp at hj
  ·rw [e,WideShapes.add_plain]
   exact hc j _ (List.getElem?_eq_getElem hj)

/-! ### Rows of records -/

abbrev RAd:=Option Addr×Nat×Option Addr×Nat
def recVs (r : Rc) (q : RAd) : List Value:=[.int .i64 r.kind,.int .i64 r.co,.int .i64 r.ep,.int .i64 r.pl,.slice q.1 r.says.length q.2.1,.slice q.2.2.1 r.img.length q.2.2.2]
def flatR (l : List (Rc×RAd)) : List Value:=l.flatMap fun x => recVs x.1 x.2
theorem flatR_len : ∀ l : List (Rc×RAd),(flatR l).length=l.length * 6
 | [] => rfl
 | x :: l => by
  have:=flatR_len l
  unfold flatR at this ⊢
  rw [List.flatMap_cons,List.length_append,this]
  simp [recVs]; omega
theorem flatR_at : ∀ (l : List (Rc×RAd)) (i j : Nat) (x : Rc×RAd),l[i]?=some x→j < 6→(flatR l)[i * 6 + j]?=(recVs x.1 x.2)[j]?
 | [],i,j,x,h,_ => by simp at h
 | y :: l,0,j,x,h,hj => by
  simp at h; subst h
  unfold flatR
  rw [List.flatMap_cons,List.getElem?_append_left (by simp [recVs]; omega)]
  simp
 | y :: l,i + 1,j,x,h,hj => by
  have h' : l[i]?=some x:=by simpa using h
  have:=flatR_at l i j x h' hj
  unfold flatR at this ⊢
  rw [List.flatMap_cons,List.getElem?_append_right (by simp [recVs]; omega)]
  rw [show (i + 1) * 6 + j - (recVs y.1 y.2).length=i * 6 + j by simp [recVs]; omega]
  exact this

def RecRow (C : Nat) (w : World) (v : Value) (l : List (Rc×RAd)) : Prop:=w.ownsRow C 27 6 v l.length (flatR l)∧∀ x ∈ l,RecT w x.2.1 x.2.2.1 x.2.2.2.1 x.2.2.2.2 x.1
theorem RecRow.nil (C : Nat) (w : World) : RecRow C w (.slice none 0 0) []:=⟨⟨rfl,Or.inl ⟨rfl,rfl⟩⟩,fun x hx => by cases hx⟩
theorem RecRow.keep {C : Nat} {w w' : World} {v : Value} {l : List (Rc×RAd)} (h : RecRow C w v l) (k : Keeps 27 w w') (k3 : Keeps 3 w w') : RecRow C w' v l:=⟨own_keep h.1 k,fun x hx => (h.2 x hx).keep k3⟩
theorem RecRow.below {C : Nat} {w w' : World} {v : Value} {l : List (Rc×RAd)} (h : RecRow C w v l) (hb : Below w.heap.size w w') : RecRow C w' v l:=h.keep (Keeps.of hb) (Keeps.of hb)
theorem RecRow.row {C : Nat} {w : World} {v : Value} {l : List (Rc×RAd)} (h : RecRow C w v l) : ∀ g,v.ownBlock=some g→C≤g∧∃ cur,w.heap[g]?=some (.cells cur 27 (0,0)):=by
 intro g hg
 rcases h.1.2 with ⟨rfl,_⟩ | ⟨g',cap,cur,rfl,hC,h2,_⟩
 ·cases hg
 ·cases hg
  exact ⟨hC,cur,h2⟩

theorem infoRec : (Tryz.prog.info? 27).map (fun i => (i.zero,i.size,i.bytes))=some (some (.agg #[.int .i64 0,.int .i64 0,.int .i64 0,.int .i64 0,.slice none 0 0,.slice none 0 0]),6,80):=by kernel_rfl

/-- A record more. -/
theorem append_rec {ops : Array Oper} {rest : List Oper} {o : Oper} {a : Act} {Q : Exit→Act→World→Prop} (W : World) (hgd : o.guard=none) (s y : Operand)
  (ho : o.op=.call { callee:=.builtin .append,args:=#[s,y],argTypes:=#[33,33] }) (C : Nat) (v : Value) (l : List (Rc×RAd)) (r : Rc) (q : RAd) (hs : a.eval s=v) (hown : RecRow C W v l) (hq : RecT W q.1 q.2.1 q.2.2.1 q.2.2.2 r) (B : Nat) (hB : W.heap.size=B) (hy : a.eval y=.slice (some ⟨B,0,none⟩) 1 1) (hl : l.length≤100000) (hC : C≤W.heap.size)
  (h : ∀ v' w2,Hid (RecRow C w2 v' (l ++ [(r,q)]))→Hid (Below C W w2)→wpList Tryz.prog ops Q rest (a.put o.dst v') w2) :
  wpList Tryz.prog ops Q (o :: rest) a (W.alloc (.cells #[.int .i64 r.kind,.int .i64 r.co,.int .i64 r.ep,.int .i64 r.pl,.slice q.1 r.says.length q.2.1,.slice q.2.2.1 r.img.length q.2.2.2] 27)):=by
 subst hB
 obtain ⟨i0,hi,hz0,hz1,hz2⟩:=info_parts infoRec
 have hba : Below W.heap.size W (W.alloc (.cells #[.int .i64 r.kind,.int .i64 r.co,.int .i64 r.ep,.int .i64 r.pl,.slice q.1 r.says.length q.2.1,.slice q.2.2.1 r.img.length q.2.2.2] 27)):=below_alloc W _
 refine wpList_append_own _ hgd s y 33 ho C 27 i0 (.agg #[.int .i64 0,.int .i64 0,.int .i64 0,.int .i64 0,.slice none 0 0,.slice none 0 0]) 6 80 Tryz.underlying33 hi hz0 hz1 hz2 rfl (by decide) v _ _ hs (own_keep hown.1 (Keeps.of hba)) ⟨W.heap.size,0,none⟩ 1 1 (recVs r q) hy rfl (fun j u hj => ?_) (fun u hu => ?_) (by unfold maxLen; omega) (by omega) (Nat.le_trans hC hba.size) ?_
 ·rw [WideShapes.add_plain,Nat.zero_add,World.cell?_alloc_new]
  simpa [recVs] using hj
 ·unfold recVs at hu
  simp only [List.mem_cons,List.mem_nil_iff,or_false] at hu
  rcases hu with rfl | rfl | rfl | rfl | rfl | rfl <;> rfl
 ·intro v' w2 h1 h2 _
  have hrow:=hown.row
  have k3 : Keeps 3 W w2:=(Keeps.of hba).trans (Keeps.grown h2 (fun g hg => by
   obtain ⟨_,cur,hc⟩:=hrow g hg
   exact ⟨cur,by rw [hba.block g (Array.getElem?_eq_some_iff.1 hc).1]; exact hc⟩) (by decide))
  refine h v' w2 ⟨?_,fun x hx => ?_⟩ ((hba.mono hC).grown h2 (Nat.le_trans hC hba.size) fun k hk => (hrow k hk).1)
  ·rw [List.length_append,show flatR (l ++ [(r,q)])=flatR l ++ recVs r q by unfold flatR; rw [List.flatMap_append]; simp]
   exact h1
  ·rcases List.mem_append.1 hx with hx | hx
   ·exact (hown.2 x hx).keep k3
   ·simp at hx
    subst hx
    exact hq.keep k3

end Go.Proofs.YtfaggdkiffhdbaaGreatDoor
