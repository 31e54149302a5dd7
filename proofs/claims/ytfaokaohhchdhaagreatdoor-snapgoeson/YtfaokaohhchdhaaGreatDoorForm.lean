/- The test of a statement's form in checkStmts of the reckoning beside the program, taken out of it: whichever way it goes, it tells what the plain reckoning does. -/
import Derived.Test.YtfaokaohhchdhaaGreatDoorPart40
namespace Go.Proofs.YtfaokaohhchdhaaGreatDoor
open Go.RowKit Go.Maps
def formX (s:Nd) (la lb:Nat):Bool:=!(formErr s la lb == 0)
theorem formX_no {s:Nd} {la lb:Nat} (h:¬(s.kind<1∨8<s.kind∨(¬s.num=0∧¬s.kind=1∧¬s.kind=2)∨(0<s.ne∧s.kind=4)∨(0<s.nf∧¬s.kind=2)∨(0<la∧¬s.kind=6∧¬s.kind=7)∨(0<lb∧¬s.kind=6))):false=formX s la lb:=by
 unfold formX;rw[←formErr_yes h];rfl
theorem formX_yes {s:Nd} {la lb:Nat} (h:s.kind<1∨8<s.kind∨(¬s.num=0∧¬s.kind=1∧¬s.kind=2)∨(0<s.ne∧s.kind=4)∨(0<s.nf∧¬s.kind=2)∨(0<la∧¬s.kind=6∧¬s.kind=7)∨(0<lb∧¬s.kind=6)):true=formX s la lb:=by
 unfold formX;rw[←formErr_no h];rfl
def findRegion (n:Nat):Code→Option Code
 | .region id ops b=>if id=n then some (.region id ops b) else none
 | .seq a b=>match findRegion n a with
  | some c=>some c
  | none=>findRegion n b
 | .loop c=>findRegion n c
 | .block _ c=>findRegion n c
 | .scope c=>findRegion n c
 | .cond _ a b=>match findRegion n a with
  | some c=>some c
  | none=>findRegion n b
 | _=>none
set_option maxRecDepth 100000 in
set_option maxHeartbeats 16000000 in
theorem r6_1 (s:Nd) (lA lB:Nat) (ae ag aa ab:Option Addr) (ce cg ca cb:Nat) (B P:Nat) (w:World) (K:Act→World→Prop) (Q:Exit→Act→World→Prop) (c0 c1 c2 c3 c4 c5 c6 c7 c12 c13 c14 c15 c16 c17 c18 c19 c20 c21 c22 c23 c24 c25 c26 c27 c28 c29 c30 c31 c32 c33 c34 c35 c36 c37 c38 c39 c40 c41 c42 c43 c44 c45 c46 c47 c48 c49 c50 c51 c52 c53 c54 c55 c56 c57 c58 c59 c60 c61 c62 c63 c64 c65 c66 c67 c68 c69 c70 c71 c72 c73 c74 c75 c76 c77 c78 c79 c80 c81 c82 c83 c84 c85 c86 c87 c88 c89 c90 c91 c92 c93 c94 c95 c96 c97 c98 c99 c100 c101 c102 c103 c104 c105 c106 c107 c108 c109 c110 c111 c112 c113 c114 c115 c116 c117 c118 c119 c120 c121 c122 c123 c124 c125 c126 c127 c128 c129 c130 c131 c132 c133 c134 c135 c136 c137 c138 c139 c140:Value)
  (m1:w.cell? ⟨B,1,none⟩=some (.int .i64 s.num)) (m2:w.cell? ⟨B,2,none⟩=some (.slice ae s.ne ce)) (m3:w.cell? ⟨B,3,none⟩=some (.slice ag s.nf cg))
  (m4:w.cell? ⟨B,4,none⟩=some (.slice aa lA ca)) (m5:w.cell? ⟨B,5,none⟩=some (.slice ab lB cb)) (hc9:w.cell? ⟨P,0,none⟩=some (.string (useF s.kind))) (hok:okF s.kind=true) (hk:s.kind=1)
  (hK:∀u28 u29 u30 u31 u32 u33 u34 u35 u36 u37 u38 u39 u40 u41 u42 u43 u44 u45 u46 u47 u48 u49 u50 u51 u52 u53 u54 u55 u56 u57 u58 u59 u60 u61 u62 u63 u64 u65 u66 u67 u68 u69 u70 u71 u72 u73 u74 u75 u76 u77 u78 u79 u80 u81 u82:Value,K ⟨#[c0,c1,c2,c3,c4,c5,c6,c7,.pointer (some ⟨B,0,none⟩),.pointer (some ⟨P,0,none⟩),.bool (okF s.kind),.func (.func 215) #[] #[.pointer (some ⟨P,0,none⟩)],c12,c13,c14,c15,c16,c17,c18,c19,c20,c21,c22,c23,c24,c25,c26,c27,u28,u29,u30,u31,u32,u33,u34,u35,u36,u37,u38,u39,u40,u41,u42,u43,u44,u45,u46,u47,u48,u49,u50,u51,u52,u53,u54,u55,u56,u57,u58,u59,u60,u61,u62,u63,u64,u65,u66,u67,u68,u69,u70,u71,u72,u73,u74,u75,u76,u77,u78,u79,u80,u81,u82,.bool (formX s lA lB),c84,c85,c86,c87,c88,c89,c90,c91,c92,c93,c94,c95,c96,c97,c98,c99,c100,c101,c102,c103,c104,c105,c106,c107,c108,c109,c110,c111,c112,c113,c114,c115,c116,c117,c118,c119,c120,c121,c122,c123,c124,c125,c126,c127,c128,c129,c130,c131,c132,c133,c134,c135,c136,c137,c138,c139,c140],[]⟩ w) :
  Code.wp Tryz.prog ((Tryz.f186.body.bind (findRegion 6)).getD .skip) (Exit.then K Q) ⟨#[c0,c1,c2,c3,c4,c5,c6,c7,.pointer (some ⟨B,0,none⟩),.pointer (some ⟨P,0,none⟩),.bool (okF s.kind),.func (.func 215) #[] #[.pointer (some ⟨P,0,none⟩)],c12,c13,c14,c15,c16,c17,c18,c19,c20,c21,c22,c23,c24,c25,c26,c27,c28,c29,c30,c31,c32,c33,c34,c35,c36,c37,c38,c39,c40,c41,c42,c43,c44,c45,c46,c47,c48,c49,c50,c51,c52,c53,c54,c55,c56,c57,c58,c59,c60,c61,c62,c63,c64,c65,c66,c67,c68,c69,c70,c71,c72,c73,c74,c75,c76,c77,c78,c79,c80,c81,c82,c83,c84,c85,c86,c87,c88,c89,c90,c91,c92,c93,c94,c95,c96,c97,c98,c99,c100,c101,c102,c103,c104,c105,c106,c107,c108,c109,c110,c111,c112,c113,c114,c115,c116,c117,c118,c119,c120,c121,c122,c123,c124,c125,c126,c127,c128,c129,c130,c131,c132,c133,c134,c135,c136,c137,c138,c139,c140],[]⟩ w:=by
 have yN:hasS ⟨#[78]⟩ s.kind=true:=by rw[hk];rfl
 have yE:hasS ⟨#[69]⟩ s.kind=true:=by rw[hk];rfl
 have yF:hasS ⟨#[70]⟩ s.kind=false:=by rw[hk];rfl
 have yA:hasS ⟨#[65]⟩ s.kind=false:=by rw[hk];rfl
 have yB:hasS ⟨#[66]⟩ s.kind=false:=by rw[hk];rfl
 have HK:Hid (s.kind=1):=hk
 clear hk
 conv=>arg 2;whnf
 rw[hok]at hK ⊢
 go_wp2_with (go_at_call 215;refine (hasC _ (by decide) s.kind hok _ _ hc9).mono ?_;rintro e w2 ⟨rfl,rfl⟩)
 all_goals
  have hk:=HK.out
  first|(have e:=formX_no (s:=s) (la:=lA) (lb:=lB) (by omega);rw[←e]at hK;exact hK _ _ _ _ _ _ _ _ _ _ _ _ _ _ _ _ _ _ _ _ _ _ _ _ _ _ _ _ _ _ _ _ _ _ _ _ _ _ _ _ _ _ _ _ _ _ _ _ _ _ _ _ _ _ _)|(have e:=formX_yes (s:=s) (la:=lA) (lb:=lB) (by omega);rw[←e]at hK;exact hK _ _ _ _ _ _ _ _ _ _ _ _ _ _ _ _ _ _ _ _ _ _ _ _ _ _ _ _ _ _ _ _ _ _ _ _ _ _ _ _ _ _ _ _ _ _ _ _ _ _ _ _ _ _ _)
set_option maxRecDepth 100000 in
set_option maxHeartbeats 16000000 in
theorem r6_2 (s:Nd) (lA lB:Nat) (ae ag aa ab:Option Addr) (ce cg ca cb:Nat) (B P:Nat) (w:World) (K:Act→World→Prop) (Q:Exit→Act→World→Prop) (c0 c1 c2 c3 c4 c5 c6 c7 c12 c13 c14 c15 c16 c17 c18 c19 c20 c21 c22 c23 c24 c25 c26 c27 c28 c29 c30 c31 c32 c33 c34 c35 c36 c37 c38 c39 c40 c41 c42 c43 c44 c45 c46 c47 c48 c49 c50 c51 c52 c53 c54 c55 c56 c57 c58 c59 c60 c61 c62 c63 c64 c65 c66 c67 c68 c69 c70 c71 c72 c73 c74 c75 c76 c77 c78 c79 c80 c81 c82 c83 c84 c85 c86 c87 c88 c89 c90 c91 c92 c93 c94 c95 c96 c97 c98 c99 c100 c101 c102 c103 c104 c105 c106 c107 c108 c109 c110 c111 c112 c113 c114 c115 c116 c117 c118 c119 c120 c121 c122 c123 c124 c125 c126 c127 c128 c129 c130 c131 c132 c133 c134 c135 c136 c137 c138 c139 c140:Value)
  (m1:w.cell? ⟨B,1,none⟩=some (.int .i64 s.num)) (m2:w.cell? ⟨B,2,none⟩=some (.slice ae s.ne ce)) (m3:w.cell? ⟨B,3,none⟩=some (.slice ag s.nf cg))
  (m4:w.cell? ⟨B,4,none⟩=some (.slice aa lA ca)) (m5:w.cell? ⟨B,5,none⟩=some (.slice ab lB cb)) (hc9:w.cell? ⟨P,0,none⟩=some (.string (useF s.kind))) (hok:okF s.kind=true) (hk:s.kind=2)
  (hK:∀u28 u29 u30 u31 u32 u33 u34 u35 u36 u37 u38 u39 u40 u41 u42 u43 u44 u45 u46 u47 u48 u49 u50 u51 u52 u53 u54 u55 u56 u57 u58 u59 u60 u61 u62 u63 u64 u65 u66 u67 u68 u69 u70 u71 u72 u73 u74 u75 u76 u77 u78 u79 u80 u81 u82:Value,K ⟨#[c0,c1,c2,c3,c4,c5,c6,c7,.pointer (some ⟨B,0,none⟩),.pointer (some ⟨P,0,none⟩),.bool (okF s.kind),.func (.func 215) #[] #[.pointer (some ⟨P,0,none⟩)],c12,c13,c14,c15,c16,c17,c18,c19,c20,c21,c22,c23,c24,c25,c26,c27,u28,u29,u30,u31,u32,u33,u34,u35,u36,u37,u38,u39,u40,u41,u42,u43,u44,u45,u46,u47,u48,u49,u50,u51,u52,u53,u54,u55,u56,u57,u58,u59,u60,u61,u62,u63,u64,u65,u66,u67,u68,u69,u70,u71,u72,u73,u74,u75,u76,u77,u78,u79,u80,u81,u82,.bool (formX s lA lB),c84,c85,c86,c87,c88,c89,c90,c91,c92,c93,c94,c95,c96,c97,c98,c99,c100,c101,c102,c103,c104,c105,c106,c107,c108,c109,c110,c111,c112,c113,c114,c115,c116,c117,c118,c119,c120,c121,c122,c123,c124,c125,c126,c127,c128,c129,c130,c131,c132,c133,c134,c135,c136,c137,c138,c139,c140],[]⟩ w) :
  Code.wp Tryz.prog ((Tryz.f186.body.bind (findRegion 6)).getD .skip) (Exit.then K Q) ⟨#[c0,c1,c2,c3,c4,c5,c6,c7,.pointer (some ⟨B,0,none⟩),.pointer (some ⟨P,0,none⟩),.bool (okF s.kind),.func (.func 215) #[] #[.pointer (some ⟨P,0,none⟩)],c12,c13,c14,c15,c16,c17,c18,c19,c20,c21,c22,c23,c24,c25,c26,c27,c28,c29,c30,c31,c32,c33,c34,c35,c36,c37,c38,c39,c40,c41,c42,c43,c44,c45,c46,c47,c48,c49,c50,c51,c52,c53,c54,c55,c56,c57,c58,c59,c60,c61,c62,c63,c64,c65,c66,c67,c68,c69,c70,c71,c72,c73,c74,c75,c76,c77,c78,c79,c80,c81,c82,c83,c84,c85,c86,c87,c88,c89,c90,c91,c92,c93,c94,c95,c96,c97,c98,c99,c100,c101,c102,c103,c104,c105,c106,c107,c108,c109,c110,c111,c112,c113,c114,c115,c116,c117,c118,c119,c120,c121,c122,c123,c124,c125,c126,c127,c128,c129,c130,c131,c132,c133,c134,c135,c136,c137,c138,c139,c140],[]⟩ w:=by
 have yN:hasS ⟨#[78]⟩ s.kind=true:=by rw[hk];rfl
 have yE:hasS ⟨#[69]⟩ s.kind=true:=by rw[hk];rfl
 have yF:hasS ⟨#[70]⟩ s.kind=true:=by rw[hk];rfl
 have yA:hasS ⟨#[65]⟩ s.kind=false:=by rw[hk];rfl
 have yB:hasS ⟨#[66]⟩ s.kind=false:=by rw[hk];rfl
 have HK:Hid (s.kind=2):=hk
 clear hk
 conv=>arg 2;whnf
 rw[hok]at hK ⊢
 go_wp2_with (go_at_call 215;refine (hasC _ (by decide) s.kind hok _ _ hc9).mono ?_;rintro e w2 ⟨rfl,rfl⟩)
 all_goals
  have hk:=HK.out
  first|(have e:=formX_no (s:=s) (la:=lA) (lb:=lB) (by omega);rw[←e]at hK;exact hK _ _ _ _ _ _ _ _ _ _ _ _ _ _ _ _ _ _ _ _ _ _ _ _ _ _ _ _ _ _ _ _ _ _ _ _ _ _ _ _ _ _ _ _ _ _ _ _ _ _ _ _ _ _ _)|(have e:=formX_yes (s:=s) (la:=lA) (lb:=lB) (by omega);rw[←e]at hK;exact hK _ _ _ _ _ _ _ _ _ _ _ _ _ _ _ _ _ _ _ _ _ _ _ _ _ _ _ _ _ _ _ _ _ _ _ _ _ _ _ _ _ _ _ _ _ _ _ _ _ _ _ _ _ _ _)
set_option maxRecDepth 100000 in
set_option maxHeartbeats 16000000 in
theorem r6_3 (s:Nd) (lA lB:Nat) (ae ag aa ab:Option Addr) (ce cg ca cb:Nat) (B P:Nat) (w:World) (K:Act→World→Prop) (Q:Exit→Act→World→Prop) (c0 c1 c2 c3 c4 c5 c6 c7 c12 c13 c14 c15 c16 c17 c18 c19 c20 c21 c22 c23 c24 c25 c26 c27 c28 c29 c30 c31 c32 c33 c34 c35 c36 c37 c38 c39 c40 c41 c42 c43 c44 c45 c46 c47 c48 c49 c50 c51 c52 c53 c54 c55 c56 c57 c58 c59 c60 c61 c62 c63 c64 c65 c66 c67 c68 c69 c70 c71 c72 c73 c74 c75 c76 c77 c78 c79 c80 c81 c82 c83 c84 c85 c86 c87 c88 c89 c90 c91 c92 c93 c94 c95 c96 c97 c98 c99 c100 c101 c102 c103 c104 c105 c106 c107 c108 c109 c110 c111 c112 c113 c114 c115 c116 c117 c118 c119 c120 c121 c122 c123 c124 c125 c126 c127 c128 c129 c130 c131 c132 c133 c134 c135 c136 c137 c138 c139 c140:Value)
  (m1:w.cell? ⟨B,1,none⟩=some (.int .i64 s.num)) (m2:w.cell? ⟨B,2,none⟩=some (.slice ae s.ne ce)) (m3:w.cell? ⟨B,3,none⟩=some (.slice ag s.nf cg))
  (m4:w.cell? ⟨B,4,none⟩=some (.slice aa lA ca)) (m5:w.cell? ⟨B,5,none⟩=some (.slice ab lB cb)) (hc9:w.cell? ⟨P,0,none⟩=some (.string (useF s.kind))) (hok:okF s.kind=true) (hk:s.kind=3)
  (hK:∀u28 u29 u30 u31 u32 u33 u34 u35 u36 u37 u38 u39 u40 u41 u42 u43 u44 u45 u46 u47 u48 u49 u50 u51 u52 u53 u54 u55 u56 u57 u58 u59 u60 u61 u62 u63 u64 u65 u66 u67 u68 u69 u70 u71 u72 u73 u74 u75 u76 u77 u78 u79 u80 u81 u82:Value,K ⟨#[c0,c1,c2,c3,c4,c5,c6,c7,.pointer (some ⟨B,0,none⟩),.pointer (some ⟨P,0,none⟩),.bool (okF s.kind),.func (.func 215) #[] #[.pointer (some ⟨P,0,none⟩)],c12,c13,c14,c15,c16,c17,c18,c19,c20,c21,c22,c23,c24,c25,c26,c27,u28,u29,u30,u31,u32,u33,u34,u35,u36,u37,u38,u39,u40,u41,u42,u43,u44,u45,u46,u47,u48,u49,u50,u51,u52,u53,u54,u55,u56,u57,u58,u59,u60,u61,u62,u63,u64,u65,u66,u67,u68,u69,u70,u71,u72,u73,u74,u75,u76,u77,u78,u79,u80,u81,u82,.bool (formX s lA lB),c84,c85,c86,c87,c88,c89,c90,c91,c92,c93,c94,c95,c96,c97,c98,c99,c100,c101,c102,c103,c104,c105,c106,c107,c108,c109,c110,c111,c112,c113,c114,c115,c116,c117,c118,c119,c120,c121,c122,c123,c124,c125,c126,c127,c128,c129,c130,c131,c132,c133,c134,c135,c136,c137,c138,c139,c140],[]⟩ w) :
  Code.wp Tryz.prog ((Tryz.f186.body.bind (findRegion 6)).getD .skip) (Exit.then K Q) ⟨#[c0,c1,c2,c3,c4,c5,c6,c7,.pointer (some ⟨B,0,none⟩),.pointer (some ⟨P,0,none⟩),.bool (okF s.kind),.func (.func 215) #[] #[.pointer (some ⟨P,0,none⟩)],c12,c13,c14,c15,c16,c17,c18,c19,c20,c21,c22,c23,c24,c25,c26,c27,c28,c29,c30,c31,c32,c33,c34,c35,c36,c37,c38,c39,c40,c41,c42,c43,c44,c45,c46,c47,c48,c49,c50,c51,c52,c53,c54,c55,c56,c57,c58,c59,c60,c61,c62,c63,c64,c65,c66,c67,c68,c69,c70,c71,c72,c73,c74,c75,c76,c77,c78,c79,c80,c81,c82,c83,c84,c85,c86,c87,c88,c89,c90,c91,c92,c93,c94,c95,c96,c97,c98,c99,c100,c101,c102,c103,c104,c105,c106,c107,c108,c109,c110,c111,c112,c113,c114,c115,c116,c117,c118,c119,c120,c121,c122,c123,c124,c125,c126,c127,c128,c129,c130,c131,c132,c133,c134,c135,c136,c137,c138,c139,c140],[]⟩ w:=by
 have yN:hasS ⟨#[78]⟩ s.kind=false:=by rw[hk];rfl
 have yE:hasS ⟨#[69]⟩ s.kind=true:=by rw[hk];rfl
 have yF:hasS ⟨#[70]⟩ s.kind=false:=by rw[hk];rfl
 have yA:hasS ⟨#[65]⟩ s.kind=false:=by rw[hk];rfl
 have yB:hasS ⟨#[66]⟩ s.kind=false:=by rw[hk];rfl
 have HK:Hid (s.kind=3):=hk
 clear hk
 conv=>arg 2;whnf
 rw[hok]at hK ⊢
 go_wp2_with (go_at_call 215;refine (hasC _ (by decide) s.kind hok _ _ hc9).mono ?_;rintro e w2 ⟨rfl,rfl⟩)
 all_goals
  have hk:=HK.out
  first|(have e:=formX_no (s:=s) (la:=lA) (lb:=lB) (by omega);rw[←e]at hK;exact hK _ _ _ _ _ _ _ _ _ _ _ _ _ _ _ _ _ _ _ _ _ _ _ _ _ _ _ _ _ _ _ _ _ _ _ _ _ _ _ _ _ _ _ _ _ _ _ _ _ _ _ _ _ _ _)|(have e:=formX_yes (s:=s) (la:=lA) (lb:=lB) (by omega);rw[←e]at hK;exact hK _ _ _ _ _ _ _ _ _ _ _ _ _ _ _ _ _ _ _ _ _ _ _ _ _ _ _ _ _ _ _ _ _ _ _ _ _ _ _ _ _ _ _ _ _ _ _ _ _ _ _ _ _ _ _)
set_option maxRecDepth 100000 in
set_option maxHeartbeats 16000000 in
theorem r6_4 (s:Nd) (lA lB:Nat) (ae ag aa ab:Option Addr) (ce cg ca cb:Nat) (B P:Nat) (w:World) (K:Act→World→Prop) (Q:Exit→Act→World→Prop) (c0 c1 c2 c3 c4 c5 c6 c7 c12 c13 c14 c15 c16 c17 c18 c19 c20 c21 c22 c23 c24 c25 c26 c27 c28 c29 c30 c31 c32 c33 c34 c35 c36 c37 c38 c39 c40 c41 c42 c43 c44 c45 c46 c47 c48 c49 c50 c51 c52 c53 c54 c55 c56 c57 c58 c59 c60 c61 c62 c63 c64 c65 c66 c67 c68 c69 c70 c71 c72 c73 c74 c75 c76 c77 c78 c79 c80 c81 c82 c83 c84 c85 c86 c87 c88 c89 c90 c91 c92 c93 c94 c95 c96 c97 c98 c99 c100 c101 c102 c103 c104 c105 c106 c107 c108 c109 c110 c111 c112 c113 c114 c115 c116 c117 c118 c119 c120 c121 c122 c123 c124 c125 c126 c127 c128 c129 c130 c131 c132 c133 c134 c135 c136 c137 c138 c139 c140:Value)
  (m1:w.cell? ⟨B,1,none⟩=some (.int .i64 s.num)) (m2:w.cell? ⟨B,2,none⟩=some (.slice ae s.ne ce)) (m3:w.cell? ⟨B,3,none⟩=some (.slice ag s.nf cg))
  (m4:w.cell? ⟨B,4,none⟩=some (.slice aa lA ca)) (m5:w.cell? ⟨B,5,none⟩=some (.slice ab lB cb)) (hc9:w.cell? ⟨P,0,none⟩=some (.string (useF s.kind))) (hok:okF s.kind=true) (hk:s.kind=4)
  (hK:∀u28 u29 u30 u31 u32 u33 u34 u35 u36 u37 u38 u39 u40 u41 u42 u43 u44 u45 u46 u47 u48 u49 u50 u51 u52 u53 u54 u55 u56 u57 u58 u59 u60 u61 u62 u63 u64 u65 u66 u67 u68 u69 u70 u71 u72 u73 u74 u75 u76 u77 u78 u79 u80 u81 u82:Value,K ⟨#[c0,c1,c2,c3,c4,c5,c6,c7,.pointer (some ⟨B,0,none⟩),.pointer (some ⟨P,0,none⟩),.bool (okF s.kind),.func (.func 215) #[] #[.pointer (some ⟨P,0,none⟩)],c12,c13,c14,c15,c16,c17,c18,c19,c20,c21,c22,c23,c24,c25,c26,c27,u28,u29,u30,u31,u32,u33,u34,u35,u36,u37,u38,u39,u40,u41,u42,u43,u44,u45,u46,u47,u48,u49,u50,u51,u52,u53,u54,u55,u56,u57,u58,u59,u60,u61,u62,u63,u64,u65,u66,u67,u68,u69,u70,u71,u72,u73,u74,u75,u76,u77,u78,u79,u80,u81,u82,.bool (formX s lA lB),c84,c85,c86,c87,c88,c89,c90,c91,c92,c93,c94,c95,c96,c97,c98,c99,c100,c101,c102,c103,c104,c105,c106,c107,c108,c109,c110,c111,c112,c113,c114,c115,c116,c117,c118,c119,c120,c121,c122,c123,c124,c125,c126,c127,c128,c129,c130,c131,c132,c133,c134,c135,c136,c137,c138,c139,c140],[]⟩ w) :
  Code.wp Tryz.prog ((Tryz.f186.body.bind (findRegion 6)).getD .skip) (Exit.then K Q) ⟨#[c0,c1,c2,c3,c4,c5,c6,c7,.pointer (some ⟨B,0,none⟩),.pointer (some ⟨P,0,none⟩),.bool (okF s.kind),.func (.func 215) #[] #[.pointer (some ⟨P,0,none⟩)],c12,c13,c14,c15,c16,c17,c18,c19,c20,c21,c22,c23,c24,c25,c26,c27,c28,c29,c30,c31,c32,c33,c34,c35,c36,c37,c38,c39,c40,c41,c42,c43,c44,c45,c46,c47,c48,c49,c50,c51,c52,c53,c54,c55,c56,c57,c58,c59,c60,c61,c62,c63,c64,c65,c66,c67,c68,c69,c70,c71,c72,c73,c74,c75,c76,c77,c78,c79,c80,c81,c82,c83,c84,c85,c86,c87,c88,c89,c90,c91,c92,c93,c94,c95,c96,c97,c98,c99,c100,c101,c102,c103,c104,c105,c106,c107,c108,c109,c110,c111,c112,c113,c114,c115,c116,c117,c118,c119,c120,c121,c122,c123,c124,c125,c126,c127,c128,c129,c130,c131,c132,c133,c134,c135,c136,c137,c138,c139,c140],[]⟩ w:=by
 have yN:hasS ⟨#[78]⟩ s.kind=false:=by rw[hk];rfl
 have yE:hasS ⟨#[69]⟩ s.kind=false:=by rw[hk];rfl
 have yF:hasS ⟨#[70]⟩ s.kind=false:=by rw[hk];rfl
 have yA:hasS ⟨#[65]⟩ s.kind=false:=by rw[hk];rfl
 have yB:hasS ⟨#[66]⟩ s.kind=false:=by rw[hk];rfl
 have HK:Hid (s.kind=4):=hk
 clear hk
 conv=>arg 2;whnf
 rw[hok]at hK ⊢
 go_wp2_with (go_at_call 215;refine (hasC _ (by decide) s.kind hok _ _ hc9).mono ?_;rintro e w2 ⟨rfl,rfl⟩)
 all_goals
  have hk:=HK.out
  first|(have e:=formX_no (s:=s) (la:=lA) (lb:=lB) (by omega);rw[←e]at hK;exact hK _ _ _ _ _ _ _ _ _ _ _ _ _ _ _ _ _ _ _ _ _ _ _ _ _ _ _ _ _ _ _ _ _ _ _ _ _ _ _ _ _ _ _ _ _ _ _ _ _ _ _ _ _ _ _)|(have e:=formX_yes (s:=s) (la:=lA) (lb:=lB) (by omega);rw[←e]at hK;exact hK _ _ _ _ _ _ _ _ _ _ _ _ _ _ _ _ _ _ _ _ _ _ _ _ _ _ _ _ _ _ _ _ _ _ _ _ _ _ _ _ _ _ _ _ _ _ _ _ _ _ _ _ _ _ _)
set_option maxRecDepth 100000 in
set_option maxHeartbeats 16000000 in
theorem r6_5 (s:Nd) (lA lB:Nat) (ae ag aa ab:Option Addr) (ce cg ca cb:Nat) (B P:Nat) (w:World) (K:Act→World→Prop) (Q:Exit→Act→World→Prop) (c0 c1 c2 c3 c4 c5 c6 c7 c12 c13 c14 c15 c16 c17 c18 c19 c20 c21 c22 c23 c24 c25 c26 c27 c28 c29 c30 c31 c32 c33 c34 c35 c36 c37 c38 c39 c40 c41 c42 c43 c44 c45 c46 c47 c48 c49 c50 c51 c52 c53 c54 c55 c56 c57 c58 c59 c60 c61 c62 c63 c64 c65 c66 c67 c68 c69 c70 c71 c72 c73 c74 c75 c76 c77 c78 c79 c80 c81 c82 c83 c84 c85 c86 c87 c88 c89 c90 c91 c92 c93 c94 c95 c96 c97 c98 c99 c100 c101 c102 c103 c104 c105 c106 c107 c108 c109 c110 c111 c112 c113 c114 c115 c116 c117 c118 c119 c120 c121 c122 c123 c124 c125 c126 c127 c128 c129 c130 c131 c132 c133 c134 c135 c136 c137 c138 c139 c140:Value)
  (m1:w.cell? ⟨B,1,none⟩=some (.int .i64 s.num)) (m2:w.cell? ⟨B,2,none⟩=some (.slice ae s.ne ce)) (m3:w.cell? ⟨B,3,none⟩=some (.slice ag s.nf cg))
  (m4:w.cell? ⟨B,4,none⟩=some (.slice aa lA ca)) (m5:w.cell? ⟨B,5,none⟩=some (.slice ab lB cb)) (hc9:w.cell? ⟨P,0,none⟩=some (.string (useF s.kind))) (hok:okF s.kind=true) (hk:s.kind=5)
  (hK:∀u28 u29 u30 u31 u32 u33 u34 u35 u36 u37 u38 u39 u40 u41 u42 u43 u44 u45 u46 u47 u48 u49 u50 u51 u52 u53 u54 u55 u56 u57 u58 u59 u60 u61 u62 u63 u64 u65 u66 u67 u68 u69 u70 u71 u72 u73 u74 u75 u76 u77 u78 u79 u80 u81 u82:Value,K ⟨#[c0,c1,c2,c3,c4,c5,c6,c7,.pointer (some ⟨B,0,none⟩),.pointer (some ⟨P,0,none⟩),.bool (okF s.kind),.func (.func 215) #[] #[.pointer (some ⟨P,0,none⟩)],c12,c13,c14,c15,c16,c17,c18,c19,c20,c21,c22,c23,c24,c25,c26,c27,u28,u29,u30,u31,u32,u33,u34,u35,u36,u37,u38,u39,u40,u41,u42,u43,u44,u45,u46,u47,u48,u49,u50,u51,u52,u53,u54,u55,u56,u57,u58,u59,u60,u61,u62,u63,u64,u65,u66,u67,u68,u69,u70,u71,u72,u73,u74,u75,u76,u77,u78,u79,u80,u81,u82,.bool (formX s lA lB),c84,c85,c86,c87,c88,c89,c90,c91,c92,c93,c94,c95,c96,c97,c98,c99,c100,c101,c102,c103,c104,c105,c106,c107,c108,c109,c110,c111,c112,c113,c114,c115,c116,c117,c118,c119,c120,c121,c122,c123,c124,c125,c126,c127,c128,c129,c130,c131,c132,c133,c134,c135,c136,c137,c138,c139,c140],[]⟩ w) :
  Code.wp Tryz.prog ((Tryz.f186.body.bind (findRegion 6)).getD .skip) (Exit.then K Q) ⟨#[c0,c1,c2,c3,c4,c5,c6,c7,.pointer (some ⟨B,0,none⟩),.pointer (some ⟨P,0,none⟩),.bool (okF s.kind),.func (.func 215) #[] #[.pointer (some ⟨P,0,none⟩)],c12,c13,c14,c15,c16,c17,c18,c19,c20,c21,c22,c23,c24,c25,c26,c27,c28,c29,c30,c31,c32,c33,c34,c35,c36,c37,c38,c39,c40,c41,c42,c43,c44,c45,c46,c47,c48,c49,c50,c51,c52,c53,c54,c55,c56,c57,c58,c59,c60,c61,c62,c63,c64,c65,c66,c67,c68,c69,c70,c71,c72,c73,c74,c75,c76,c77,c78,c79,c80,c81,c82,c83,c84,c85,c86,c87,c88,c89,c90,c91,c92,c93,c94,c95,c96,c97,c98,c99,c100,c101,c102,c103,c104,c105,c106,c107,c108,c109,c110,c111,c112,c113,c114,c115,c116,c117,c118,c119,c120,c121,c122,c123,c124,c125,c126,c127,c128,c129,c130,c131,c132,c133,c134,c135,c136,c137,c138,c139,c140],[]⟩ w:=by
 have yN:hasS ⟨#[78]⟩ s.kind=false:=by rw[hk];rfl
 have yE:hasS ⟨#[69]⟩ s.kind=true:=by rw[hk];rfl
 have yF:hasS ⟨#[70]⟩ s.kind=false:=by rw[hk];rfl
 have yA:hasS ⟨#[65]⟩ s.kind=false:=by rw[hk];rfl
 have yB:hasS ⟨#[66]⟩ s.kind=false:=by rw[hk];rfl
 have HK:Hid (s.kind=5):=hk
 clear hk
 conv=>arg 2;whnf
 rw[hok]at hK ⊢
 go_wp2_with (go_at_call 215;refine (hasC _ (by decide) s.kind hok _ _ hc9).mono ?_;rintro e w2 ⟨rfl,rfl⟩)
 all_goals
  have hk:=HK.out
  first|(have e:=formX_no (s:=s) (la:=lA) (lb:=lB) (by omega);rw[←e]at hK;exact hK _ _ _ _ _ _ _ _ _ _ _ _ _ _ _ _ _ _ _ _ _ _ _ _ _ _ _ _ _ _ _ _ _ _ _ _ _ _ _ _ _ _ _ _ _ _ _ _ _ _ _ _ _ _ _)|(have e:=formX_yes (s:=s) (la:=lA) (lb:=lB) (by omega);rw[←e]at hK;exact hK _ _ _ _ _ _ _ _ _ _ _ _ _ _ _ _ _ _ _ _ _ _ _ _ _ _ _ _ _ _ _ _ _ _ _ _ _ _ _ _ _ _ _ _ _ _ _ _ _ _ _ _ _ _ _)
set_option maxRecDepth 100000 in
set_option maxHeartbeats 16000000 in
theorem r6_6 (s:Nd) (lA lB:Nat) (ae ag aa ab:Option Addr) (ce cg ca cb:Nat) (B P:Nat) (w:World) (K:Act→World→Prop) (Q:Exit→Act→World→Prop) (c0 c1 c2 c3 c4 c5 c6 c7 c12 c13 c14 c15 c16 c17 c18 c19 c20 c21 c22 c23 c24 c25 c26 c27 c28 c29 c30 c31 c32 c33 c34 c35 c36 c37 c38 c39 c40 c41 c42 c43 c44 c45 c46 c47 c48 c49 c50 c51 c52 c53 c54 c55 c56 c57 c58 c59 c60 c61 c62 c63 c64 c65 c66 c67 c68 c69 c70 c71 c72 c73 c74 c75 c76 c77 c78 c79 c80 c81 c82 c83 c84 c85 c86 c87 c88 c89 c90 c91 c92 c93 c94 c95 c96 c97 c98 c99 c100 c101 c102 c103 c104 c105 c106 c107 c108 c109 c110 c111 c112 c113 c114 c115 c116 c117 c118 c119 c120 c121 c122 c123 c124 c125 c126 c127 c128 c129 c130 c131 c132 c133 c134 c135 c136 c137 c138 c139 c140:Value)
  (m1:w.cell? ⟨B,1,none⟩=some (.int .i64 s.num)) (m2:w.cell? ⟨B,2,none⟩=some (.slice ae s.ne ce)) (m3:w.cell? ⟨B,3,none⟩=some (.slice ag s.nf cg))
  (m4:w.cell? ⟨B,4,none⟩=some (.slice aa lA ca)) (m5:w.cell? ⟨B,5,none⟩=some (.slice ab lB cb)) (hc9:w.cell? ⟨P,0,none⟩=some (.string (useF s.kind))) (hok:okF s.kind=true) (hk:s.kind=6)
  (hK:∀u28 u29 u30 u31 u32 u33 u34 u35 u36 u37 u38 u39 u40 u41 u42 u43 u44 u45 u46 u47 u48 u49 u50 u51 u52 u53 u54 u55 u56 u57 u58 u59 u60 u61 u62 u63 u64 u65 u66 u67 u68 u69 u70 u71 u72 u73 u74 u75 u76 u77 u78 u79 u80 u81 u82:Value,K ⟨#[c0,c1,c2,c3,c4,c5,c6,c7,.pointer (some ⟨B,0,none⟩),.pointer (some ⟨P,0,none⟩),.bool (okF s.kind),.func (.func 215) #[] #[.pointer (some ⟨P,0,none⟩)],c12,c13,c14,c15,c16,c17,c18,c19,c20,c21,c22,c23,c24,c25,c26,c27,u28,u29,u30,u31,u32,u33,u34,u35,u36,u37,u38,u39,u40,u41,u42,u43,u44,u45,u46,u47,u48,u49,u50,u51,u52,u53,u54,u55,u56,u57,u58,u59,u60,u61,u62,u63,u64,u65,u66,u67,u68,u69,u70,u71,u72,u73,u74,u75,u76,u77,u78,u79,u80,u81,u82,.bool (formX s lA lB),c84,c85,c86,c87,c88,c89,c90,c91,c92,c93,c94,c95,c96,c97,c98,c99,c100,c101,c102,c103,c104,c105,c106,c107,c108,c109,c110,c111,c112,c113,c114,c115,c116,c117,c118,c119,c120,c121,c122,c123,c124,c125,c126,c127,c128,c129,c130,c131,c132,c133,c134,c135,c136,c137,c138,c139,c140],[]⟩ w) :
  Code.wp Tryz.prog ((Tryz.f186.body.bind (findRegion 6)).getD .skip) (Exit.then K Q) ⟨#[c0,c1,c2,c3,c4,c5,c6,c7,.pointer (some ⟨B,0,none⟩),.pointer (some ⟨P,0,none⟩),.bool (okF s.kind),.func (.func 215) #[] #[.pointer (some ⟨P,0,none⟩)],c12,c13,c14,c15,c16,c17,c18,c19,c20,c21,c22,c23,c24,c25,c26,c27,c28,c29,c30,c31,c32,c33,c34,c35,c36,c37,c38,c39,c40,c41,c42,c43,c44,c45,c46,c47,c48,c49,c50,c51,c52,c53,c54,c55,c56,c57,c58,c59,c60,c61,c62,c63,c64,c65,c66,c67,c68,c69,c70,c71,c72,c73,c74,c75,c76,c77,c78,c79,c80,c81,c82,c83,c84,c85,c86,c87,c88,c89,c90,c91,c92,c93,c94,c95,c96,c97,c98,c99,c100,c101,c102,c103,c104,c105,c106,c107,c108,c109,c110,c111,c112,c113,c114,c115,c116,c117,c118,c119,c120,c121,c122,c123,c124,c125,c126,c127,c128,c129,c130,c131,c132,c133,c134,c135,c136,c137,c138,c139,c140],[]⟩ w:=by
 have yN:hasS ⟨#[78]⟩ s.kind=false:=by rw[hk];rfl
 have yE:hasS ⟨#[69]⟩ s.kind=true:=by rw[hk];rfl
 have yF:hasS ⟨#[70]⟩ s.kind=false:=by rw[hk];rfl
 have yA:hasS ⟨#[65]⟩ s.kind=true:=by rw[hk];rfl
 have yB:hasS ⟨#[66]⟩ s.kind=true:=by rw[hk];rfl
 have HK:Hid (s.kind=6):=hk
 clear hk
 conv=>arg 2;whnf
 rw[hok]at hK ⊢
 go_wp2_with (go_at_call 215;refine (hasC _ (by decide) s.kind hok _ _ hc9).mono ?_;rintro e w2 ⟨rfl,rfl⟩)
 all_goals
  have hk:=HK.out
  first|(have e:=formX_no (s:=s) (la:=lA) (lb:=lB) (by omega);rw[←e]at hK;exact hK _ _ _ _ _ _ _ _ _ _ _ _ _ _ _ _ _ _ _ _ _ _ _ _ _ _ _ _ _ _ _ _ _ _ _ _ _ _ _ _ _ _ _ _ _ _ _ _ _ _ _ _ _ _ _)|(have e:=formX_yes (s:=s) (la:=lA) (lb:=lB) (by omega);rw[←e]at hK;exact hK _ _ _ _ _ _ _ _ _ _ _ _ _ _ _ _ _ _ _ _ _ _ _ _ _ _ _ _ _ _ _ _ _ _ _ _ _ _ _ _ _ _ _ _ _ _ _ _ _ _ _ _ _ _ _)
set_option maxRecDepth 100000 in
set_option maxHeartbeats 16000000 in
theorem r6_7 (s:Nd) (lA lB:Nat) (ae ag aa ab:Option Addr) (ce cg ca cb:Nat) (B P:Nat) (w:World) (K:Act→World→Prop) (Q:Exit→Act→World→Prop) (c0 c1 c2 c3 c4 c5 c6 c7 c12 c13 c14 c15 c16 c17 c18 c19 c20 c21 c22 c23 c24 c25 c26 c27 c28 c29 c30 c31 c32 c33 c34 c35 c36 c37 c38 c39 c40 c41 c42 c43 c44 c45 c46 c47 c48 c49 c50 c51 c52 c53 c54 c55 c56 c57 c58 c59 c60 c61 c62 c63 c64 c65 c66 c67 c68 c69 c70 c71 c72 c73 c74 c75 c76 c77 c78 c79 c80 c81 c82 c83 c84 c85 c86 c87 c88 c89 c90 c91 c92 c93 c94 c95 c96 c97 c98 c99 c100 c101 c102 c103 c104 c105 c106 c107 c108 c109 c110 c111 c112 c113 c114 c115 c116 c117 c118 c119 c120 c121 c122 c123 c124 c125 c126 c127 c128 c129 c130 c131 c132 c133 c134 c135 c136 c137 c138 c139 c140:Value)
  (m1:w.cell? ⟨B,1,none⟩=some (.int .i64 s.num)) (m2:w.cell? ⟨B,2,none⟩=some (.slice ae s.ne ce)) (m3:w.cell? ⟨B,3,none⟩=some (.slice ag s.nf cg))
  (m4:w.cell? ⟨B,4,none⟩=some (.slice aa lA ca)) (m5:w.cell? ⟨B,5,none⟩=some (.slice ab lB cb)) (hc9:w.cell? ⟨P,0,none⟩=some (.string (useF s.kind))) (hok:okF s.kind=true) (hk:s.kind=7)
  (hK:∀u28 u29 u30 u31 u32 u33 u34 u35 u36 u37 u38 u39 u40 u41 u42 u43 u44 u45 u46 u47 u48 u49 u50 u51 u52 u53 u54 u55 u56 u57 u58 u59 u60 u61 u62 u63 u64 u65 u66 u67 u68 u69 u70 u71 u72 u73 u74 u75 u76 u77 u78 u79 u80 u81 u82:Value,K ⟨#[c0,c1,c2,c3,c4,c5,c6,c7,.pointer (some ⟨B,0,none⟩),.pointer (some ⟨P,0,none⟩),.bool (okF s.kind),.func (.func 215) #[] #[.pointer (some ⟨P,0,none⟩)],c12,c13,c14,c15,c16,c17,c18,c19,c20,c21,c22,c23,c24,c25,c26,c27,u28,u29,u30,u31,u32,u33,u34,u35,u36,u37,u38,u39,u40,u41,u42,u43,u44,u45,u46,u47,u48,u49,u50,u51,u52,u53,u54,u55,u56,u57,u58,u59,u60,u61,u62,u63,u64,u65,u66,u67,u68,u69,u70,u71,u72,u73,u74,u75,u76,u77,u78,u79,u80,u81,u82,.bool (formX s lA lB),c84,c85,c86,c87,c88,c89,c90,c91,c92,c93,c94,c95,c96,c97,c98,c99,c100,c101,c102,c103,c104,c105,c106,c107,c108,c109,c110,c111,c112,c113,c114,c115,c116,c117,c118,c119,c120,c121,c122,c123,c124,c125,c126,c127,c128,c129,c130,c131,c132,c133,c134,c135,c136,c137,c138,c139,c140],[]⟩ w) :
  Code.wp Tryz.prog ((Tryz.f186.body.bind (findRegion 6)).getD .skip) (Exit.then K Q) ⟨#[c0,c1,c2,c3,c4,c5,c6,c7,.pointer (some ⟨B,0,none⟩),.pointer (some ⟨P,0,none⟩),.bool (okF s.kind),.func (.func 215) #[] #[.pointer (some ⟨P,0,none⟩)],c12,c13,c14,c15,c16,c17,c18,c19,c20,c21,c22,c23,c24,c25,c26,c27,c28,c29,c30,c31,c32,c33,c34,c35,c36,c37,c38,c39,c40,c41,c42,c43,c44,c45,c46,c47,c48,c49,c50,c51,c52,c53,c54,c55,c56,c57,c58,c59,c60,c61,c62,c63,c64,c65,c66,c67,c68,c69,c70,c71,c72,c73,c74,c75,c76,c77,c78,c79,c80,c81,c82,c83,c84,c85,c86,c87,c88,c89,c90,c91,c92,c93,c94,c95,c96,c97,c98,c99,c100,c101,c102,c103,c104,c105,c106,c107,c108,c109,c110,c111,c112,c113,c114,c115,c116,c117,c118,c119,c120,c121,c122,c123,c124,c125,c126,c127,c128,c129,c130,c131,c132,c133,c134,c135,c136,c137,c138,c139,c140],[]⟩ w:=by
 have yN:hasS ⟨#[78]⟩ s.kind=false:=by rw[hk];rfl
 have yE:hasS ⟨#[69]⟩ s.kind=true:=by rw[hk];rfl
 have yF:hasS ⟨#[70]⟩ s.kind=false:=by rw[hk];rfl
 have yA:hasS ⟨#[65]⟩ s.kind=true:=by rw[hk];rfl
 have yB:hasS ⟨#[66]⟩ s.kind=false:=by rw[hk];rfl
 have HK:Hid (s.kind=7):=hk
 clear hk
 conv=>arg 2;whnf
 rw[hok]at hK ⊢
 go_wp2_with (go_at_call 215;refine (hasC _ (by decide) s.kind hok _ _ hc9).mono ?_;rintro e w2 ⟨rfl,rfl⟩)
 all_goals
  have hk:=HK.out
  first|(have e:=formX_no (s:=s) (la:=lA) (lb:=lB) (by omega);rw[←e]at hK;exact hK _ _ _ _ _ _ _ _ _ _ _ _ _ _ _ _ _ _ _ _ _ _ _ _ _ _ _ _ _ _ _ _ _ _ _ _ _ _ _ _ _ _ _ _ _ _ _ _ _ _ _ _ _ _ _)|(have e:=formX_yes (s:=s) (la:=lA) (lb:=lB) (by omega);rw[←e]at hK;exact hK _ _ _ _ _ _ _ _ _ _ _ _ _ _ _ _ _ _ _ _ _ _ _ _ _ _ _ _ _ _ _ _ _ _ _ _ _ _ _ _ _ _ _ _ _ _ _ _ _ _ _ _ _ _ _)
set_option maxRecDepth 100000 in
set_option maxHeartbeats 16000000 in
theorem r6_8 (s:Nd) (lA lB:Nat) (ae ag aa ab:Option Addr) (ce cg ca cb:Nat) (B P:Nat) (w:World) (K:Act→World→Prop) (Q:Exit→Act→World→Prop) (c0 c1 c2 c3 c4 c5 c6 c7 c12 c13 c14 c15 c16 c17 c18 c19 c20 c21 c22 c23 c24 c25 c26 c27 c28 c29 c30 c31 c32 c33 c34 c35 c36 c37 c38 c39 c40 c41 c42 c43 c44 c45 c46 c47 c48 c49 c50 c51 c52 c53 c54 c55 c56 c57 c58 c59 c60 c61 c62 c63 c64 c65 c66 c67 c68 c69 c70 c71 c72 c73 c74 c75 c76 c77 c78 c79 c80 c81 c82 c83 c84 c85 c86 c87 c88 c89 c90 c91 c92 c93 c94 c95 c96 c97 c98 c99 c100 c101 c102 c103 c104 c105 c106 c107 c108 c109 c110 c111 c112 c113 c114 c115 c116 c117 c118 c119 c120 c121 c122 c123 c124 c125 c126 c127 c128 c129 c130 c131 c132 c133 c134 c135 c136 c137 c138 c139 c140:Value)
  (m1:w.cell? ⟨B,1,none⟩=some (.int .i64 s.num)) (m2:w.cell? ⟨B,2,none⟩=some (.slice ae s.ne ce)) (m3:w.cell? ⟨B,3,none⟩=some (.slice ag s.nf cg))
  (m4:w.cell? ⟨B,4,none⟩=some (.slice aa lA ca)) (m5:w.cell? ⟨B,5,none⟩=some (.slice ab lB cb)) (hc9:w.cell? ⟨P,0,none⟩=some (.string (useF s.kind))) (hok:okF s.kind=true) (hk:s.kind=8)
  (hK:∀u28 u29 u30 u31 u32 u33 u34 u35 u36 u37 u38 u39 u40 u41 u42 u43 u44 u45 u46 u47 u48 u49 u50 u51 u52 u53 u54 u55 u56 u57 u58 u59 u60 u61 u62 u63 u64 u65 u66 u67 u68 u69 u70 u71 u72 u73 u74 u75 u76 u77 u78 u79 u80 u81 u82:Value,K ⟨#[c0,c1,c2,c3,c4,c5,c6,c7,.pointer (some ⟨B,0,none⟩),.pointer (some ⟨P,0,none⟩),.bool (okF s.kind),.func (.func 215) #[] #[.pointer (some ⟨P,0,none⟩)],c12,c13,c14,c15,c16,c17,c18,c19,c20,c21,c22,c23,c24,c25,c26,c27,u28,u29,u30,u31,u32,u33,u34,u35,u36,u37,u38,u39,u40,u41,u42,u43,u44,u45,u46,u47,u48,u49,u50,u51,u52,u53,u54,u55,u56,u57,u58,u59,u60,u61,u62,u63,u64,u65,u66,u67,u68,u69,u70,u71,u72,u73,u74,u75,u76,u77,u78,u79,u80,u81,u82,.bool (formX s lA lB),c84,c85,c86,c87,c88,c89,c90,c91,c92,c93,c94,c95,c96,c97,c98,c99,c100,c101,c102,c103,c104,c105,c106,c107,c108,c109,c110,c111,c112,c113,c114,c115,c116,c117,c118,c119,c120,c121,c122,c123,c124,c125,c126,c127,c128,c129,c130,c131,c132,c133,c134,c135,c136,c137,c138,c139,c140],[]⟩ w) :
  Code.wp Tryz.prog ((Tryz.f186.body.bind (findRegion 6)).getD .skip) (Exit.then K Q) ⟨#[c0,c1,c2,c3,c4,c5,c6,c7,.pointer (some ⟨B,0,none⟩),.pointer (some ⟨P,0,none⟩),.bool (okF s.kind),.func (.func 215) #[] #[.pointer (some ⟨P,0,none⟩)],c12,c13,c14,c15,c16,c17,c18,c19,c20,c21,c22,c23,c24,c25,c26,c27,c28,c29,c30,c31,c32,c33,c34,c35,c36,c37,c38,c39,c40,c41,c42,c43,c44,c45,c46,c47,c48,c49,c50,c51,c52,c53,c54,c55,c56,c57,c58,c59,c60,c61,c62,c63,c64,c65,c66,c67,c68,c69,c70,c71,c72,c73,c74,c75,c76,c77,c78,c79,c80,c81,c82,c83,c84,c85,c86,c87,c88,c89,c90,c91,c92,c93,c94,c95,c96,c97,c98,c99,c100,c101,c102,c103,c104,c105,c106,c107,c108,c109,c110,c111,c112,c113,c114,c115,c116,c117,c118,c119,c120,c121,c122,c123,c124,c125,c126,c127,c128,c129,c130,c131,c132,c133,c134,c135,c136,c137,c138,c139,c140],[]⟩ w:=by
 have yN:hasS ⟨#[78]⟩ s.kind=false:=by rw[hk];rfl
 have yE:hasS ⟨#[69]⟩ s.kind=true:=by rw[hk];rfl
 have yF:hasS ⟨#[70]⟩ s.kind=false:=by rw[hk];rfl
 have yA:hasS ⟨#[65]⟩ s.kind=false:=by rw[hk];rfl
 have yB:hasS ⟨#[66]⟩ s.kind=false:=by rw[hk];rfl
 have HK:Hid (s.kind=8):=hk
 clear hk
 conv=>arg 2;whnf
 rw[hok]at hK ⊢
 go_wp2_with (go_at_call 215;refine (hasC _ (by decide) s.kind hok _ _ hc9).mono ?_;rintro e w2 ⟨rfl,rfl⟩)
 all_goals
  have hk:=HK.out
  first|(have e:=formX_no (s:=s) (la:=lA) (lb:=lB) (by omega);rw[←e]at hK;exact hK _ _ _ _ _ _ _ _ _ _ _ _ _ _ _ _ _ _ _ _ _ _ _ _ _ _ _ _ _ _ _ _ _ _ _ _ _ _ _ _ _ _ _ _ _ _ _ _ _ _ _ _ _ _ _)|(have e:=formX_yes (s:=s) (la:=lA) (lb:=lB) (by omega);rw[←e]at hK;exact hK _ _ _ _ _ _ _ _ _ _ _ _ _ _ _ _ _ _ _ _ _ _ _ _ _ _ _ _ _ _ _ _ _ _ _ _ _ _ _ _ _ _ _ _ _ _ _ _ _ _ _ _ _ _ _)
set_option maxRecDepth 100000 in
set_option maxHeartbeats 16000000 in
theorem r6 (s:Nd) (lA lB:Nat) (ae ag aa ab:Option Addr) (ce cg ca cb:Nat) (B P:Nat) (w:World) (K:Act→World→Prop) (Q:Exit→Act→World→Prop) (c0 c1 c2 c3 c4 c5 c6 c7 c12 c13 c14 c15 c16 c17 c18 c19 c20 c21 c22 c23 c24 c25 c26 c27 c28 c29 c30 c31 c32 c33 c34 c35 c36 c37 c38 c39 c40 c41 c42 c43 c44 c45 c46 c47 c48 c49 c50 c51 c52 c53 c54 c55 c56 c57 c58 c59 c60 c61 c62 c63 c64 c65 c66 c67 c68 c69 c70 c71 c72 c73 c74 c75 c76 c77 c78 c79 c80 c81 c82 c83 c84 c85 c86 c87 c88 c89 c90 c91 c92 c93 c94 c95 c96 c97 c98 c99 c100 c101 c102 c103 c104 c105 c106 c107 c108 c109 c110 c111 c112 c113 c114 c115 c116 c117 c118 c119 c120 c121 c122 c123 c124 c125 c126 c127 c128 c129 c130 c131 c132 c133 c134 c135 c136 c137 c138 c139 c140:Value)
  (m1:w.cell? ⟨B,1,none⟩=some (.int .i64 s.num)) (m2:w.cell? ⟨B,2,none⟩=some (.slice ae s.ne ce)) (m3:w.cell? ⟨B,3,none⟩=some (.slice ag s.nf cg))
  (m4:w.cell? ⟨B,4,none⟩=some (.slice aa lA ca)) (m5:w.cell? ⟨B,5,none⟩=some (.slice ab lB cb)) (hc9:w.cell? ⟨P,0,none⟩=some (.string (useF s.kind))) (hok:okF s.kind=true)
  (hK:∀u28 u29 u30 u31 u32 u33 u34 u35 u36 u37 u38 u39 u40 u41 u42 u43 u44 u45 u46 u47 u48 u49 u50 u51 u52 u53 u54 u55 u56 u57 u58 u59 u60 u61 u62 u63 u64 u65 u66 u67 u68 u69 u70 u71 u72 u73 u74 u75 u76 u77 u78 u79 u80 u81 u82:Value,K ⟨#[c0,c1,c2,c3,c4,c5,c6,c7,.pointer (some ⟨B,0,none⟩),.pointer (some ⟨P,0,none⟩),.bool (okF s.kind),.func (.func 215) #[] #[.pointer (some ⟨P,0,none⟩)],c12,c13,c14,c15,c16,c17,c18,c19,c20,c21,c22,c23,c24,c25,c26,c27,u28,u29,u30,u31,u32,u33,u34,u35,u36,u37,u38,u39,u40,u41,u42,u43,u44,u45,u46,u47,u48,u49,u50,u51,u52,u53,u54,u55,u56,u57,u58,u59,u60,u61,u62,u63,u64,u65,u66,u67,u68,u69,u70,u71,u72,u73,u74,u75,u76,u77,u78,u79,u80,u81,u82,.bool (formX s lA lB),c84,c85,c86,c87,c88,c89,c90,c91,c92,c93,c94,c95,c96,c97,c98,c99,c100,c101,c102,c103,c104,c105,c106,c107,c108,c109,c110,c111,c112,c113,c114,c115,c116,c117,c118,c119,c120,c121,c122,c123,c124,c125,c126,c127,c128,c129,c130,c131,c132,c133,c134,c135,c136,c137,c138,c139,c140],[]⟩ w) :
  Code.wp Tryz.prog ((Tryz.f186.body.bind (findRegion 6)).getD .skip) (Exit.then K Q) ⟨#[c0,c1,c2,c3,c4,c5,c6,c7,.pointer (some ⟨B,0,none⟩),.pointer (some ⟨P,0,none⟩),.bool (okF s.kind),.func (.func 215) #[] #[.pointer (some ⟨P,0,none⟩)],c12,c13,c14,c15,c16,c17,c18,c19,c20,c21,c22,c23,c24,c25,c26,c27,c28,c29,c30,c31,c32,c33,c34,c35,c36,c37,c38,c39,c40,c41,c42,c43,c44,c45,c46,c47,c48,c49,c50,c51,c52,c53,c54,c55,c56,c57,c58,c59,c60,c61,c62,c63,c64,c65,c66,c67,c68,c69,c70,c71,c72,c73,c74,c75,c76,c77,c78,c79,c80,c81,c82,c83,c84,c85,c86,c87,c88,c89,c90,c91,c92,c93,c94,c95,c96,c97,c98,c99,c100,c101,c102,c103,c104,c105,c106,c107,c108,c109,c110,c111,c112,c113,c114,c115,c116,c117,c118,c119,c120,c121,c122,c123,c124,c125,c126,c127,c128,c129,c130,c131,c132,c133,c134,c135,c136,c137,c138,c139,c140],[]⟩ w:=by
 have hk:1≤s.kind∧s.kind≤8:=of_decide_eq_true hok
 rcases (show s.kind=1∨s.kind=2∨s.kind=3∨s.kind=4∨s.kind=5∨s.kind=6∨s.kind=7∨s.kind=8 by omega) with h|h|h|h|h|h|h|h
 ·exact r6_1 s lA lB ae ag aa ab ce cg ca cb B P w K Q c0 c1 c2 c3 c4 c5 c6 c7 c12 c13 c14 c15 c16 c17 c18 c19 c20 c21 c22 c23 c24 c25 c26 c27 c28 c29 c30 c31 c32 c33 c34 c35 c36 c37 c38 c39 c40 c41 c42 c43 c44 c45 c46 c47 c48 c49 c50 c51 c52 c53 c54 c55 c56 c57 c58 c59 c60 c61 c62 c63 c64 c65 c66 c67 c68 c69 c70 c71 c72 c73 c74 c75 c76 c77 c78 c79 c80 c81 c82 c83 c84 c85 c86 c87 c88 c89 c90 c91 c92 c93 c94 c95 c96 c97 c98 c99 c100 c101 c102 c103 c104 c105 c106 c107 c108 c109 c110 c111 c112 c113 c114 c115 c116 c117 c118 c119 c120 c121 c122 c123 c124 c125 c126 c127 c128 c129 c130 c131 c132 c133 c134 c135 c136 c137 c138 c139 c140 m1 m2 m3 m4 m5 hc9 hok h hK
 ·exact r6_2 s lA lB ae ag aa ab ce cg ca cb B P w K Q c0 c1 c2 c3 c4 c5 c6 c7 c12 c13 c14 c15 c16 c17 c18 c19 c20 c21 c22 c23 c24 c25 c26 c27 c28 c29 c30 c31 c32 c33 c34 c35 c36 c37 c38 c39 c40 c41 c42 c43 c44 c45 c46 c47 c48 c49 c50 c51 c52 c53 c54 c55 c56 c57 c58 c59 c60 c61 c62 c63 c64 c65 c66 c67 c68 c69 c70 c71 c72 c73 c74 c75 c76 c77 c78 c79 c80 c81 c82 c83 c84 c85 c86 c87 c88 c89 c90 c91 c92 c93 c94 c95 c96 c97 c98 c99 c100 c101 c102 c103 c104 c105 c106 c107 c108 c109 c110 c111 c112 c113 c114 c115 c116 c117 c118 c119 c120 c121 c122 c123 c124 c125 c126 c127 c128 c129 c130 c131 c132 c133 c134 c135 c136 c137 c138 c139 c140 m1 m2 m3 m4 m5 hc9 hok h hK
 ·exact r6_3 s lA lB ae ag aa ab ce cg ca cb B P w K Q c0 c1 c2 c3 c4 c5 c6 c7 c12 c13 c14 c15 c16 c17 c18 c19 c20 c21 c22 c23 c24 c25 c26 c27 c28 c29 c30 c31 c32 c33 c34 c35 c36 c37 c38 c39 c40 c41 c42 c43 c44 c45 c46 c47 c48 c49 c50 c51 c52 c53 c54 c55 c56 c57 c58 c59 c60 c61 c62 c63 c64 c65 c66 c67 c68 c69 c70 c71 c72 c73 c74 c75 c76 c77 c78 c79 c80 c81 c82 c83 c84 c85 c86 c87 c88 c89 c90 c91 c92 c93 c94 c95 c96 c97 c98 c99 c100 c101 c102 c103 c104 c105 c106 c107 c108 c109 c110 c111 c112 c113 c114 c115 c116 c117 c118 c119 c120 c121 c122 c123 c124 c125 c126 c127 c128 c129 c130 c131 c132 c133 c134 c135 c136 c137 c138 c139 c140 m1 m2 m3 m4 m5 hc9 hok h hK
 ·exact r6_4 s lA lB ae ag aa ab ce cg ca cb B P w K Q c0 c1 c2 c3 c4 c5 c6 c7 c12 c13 c14 c15 c16 c17 c18 c19 c20 c21 c22 c23 c24 c25 c26 c27 c28 c29 c30 c31 c32 c33 c34 c35 c36 c37 c38 c39 c40 c41 c42 c43 c44 c45 c46 c47 c48 c49 c50 c51 c52 c53 c54 c55 c56 c57 c58 c59 c60 c61 c62 c63 c64 c65 c66 c67 c68 c69 c70 c71 c72 c73 c74 c75 c76 c77 c78 c79 c80 c81 c82 c83 c84 c85 c86 c87 c88 c89 c90 c91 c92 c93 c94 c95 c96 c97 c98 c99 c100 c101 c102 c103 c104 c105 c106 c107 c108 c109 c110 c111 c112 c113 c114 c115 c116 c117 c118 c119 c120 c121 c122 c123 c124 c125 c126 c127 c128 c129 c130 c131 c132 c133 c134 c135 c136 c137 c138 c139 c140 m1 m2 m3 m4 m5 hc9 hok h hK
 ·exact r6_5 s lA lB ae ag aa ab ce cg ca cb B P w K Q c0 c1 c2 c3 c4 c5 c6 c7 c12 c13 c14 c15 c16 c17 c18 c19 c20 c21 c22 c23 c24 c25 c26 c27 c28 c29 c30 c31 c32 c33 c34 c35 c36 c37 c38 c39 c40 c41 c42 c43 c44 c45 c46 c47 c48 c49 c50 c51 c52 c53 c54 c55 c56 c57 c58 c59 c60 c61 c62 c63 c64 c65 c66 c67 c68 c69 c70 c71 c72 c73 c74 c75 c76 c77 c78 c79 c80 c81 c82 c83 c84 c85 c86 c87 c88 c89 c90 c91 c92 c93 c94 c95 c96 c97 c98 c99 c100 c101 c102 c103 c104 c105 c106 c107 c108 c109 c110 c111 c112 c113 c114 c115 c116 c117 c118 c119 c120 c121 c122 c123 c124 c125 c126 c127 c128 c129 c130 c131 c132 c133 c134 c135 c136 c137 c138 c139 c140 m1 m2 m3 m4 m5 hc9 hok h hK
 ·exact r6_6 s lA lB ae ag aa ab ce cg ca cb B P w K Q c0 c1 c2 c3 c4 c5 c6 c7 c12 c13 c14 c15 c16 c17 c18 c19 c20 c21 c22 c23 c24 c25 c26 c27 c28 c29 c30 c31 c32 c33 c34 c35 c36 c37 c38 c39 c40 c41 c42 c43 c44 c45 c46 c47 c48 c49 c50 c51 c52 c53 c54 c55 c56 c57 c58 c59 c60 c61 c62 c63 c64 c65 c66 c67 c68 c69 c70 c71 c72 c73 c74 c75 c76 c77 c78 c79 c80 c81 c82 c83 c84 c85 c86 c87 c88 c89 c90 c91 c92 c93 c94 c95 c96 c97 c98 c99 c100 c101 c102 c103 c104 c105 c106 c107 c108 c109 c110 c111 c112 c113 c114 c115 c116 c117 c118 c119 c120 c121 c122 c123 c124 c125 c126 c127 c128 c129 c130 c131 c132 c133 c134 c135 c136 c137 c138 c139 c140 m1 m2 m3 m4 m5 hc9 hok h hK
 ·exact r6_7 s lA lB ae ag aa ab ce cg ca cb B P w K Q c0 c1 c2 c3 c4 c5 c6 c7 c12 c13 c14 c15 c16 c17 c18 c19 c20 c21 c22 c23 c24 c25 c26 c27 c28 c29 c30 c31 c32 c33 c34 c35 c36 c37 c38 c39 c40 c41 c42 c43 c44 c45 c46 c47 c48 c49 c50 c51 c52 c53 c54 c55 c56 c57 c58 c59 c60 c61 c62 c63 c64 c65 c66 c67 c68 c69 c70 c71 c72 c73 c74 c75 c76 c77 c78 c79 c80 c81 c82 c83 c84 c85 c86 c87 c88 c89 c90 c91 c92 c93 c94 c95 c96 c97 c98 c99 c100 c101 c102 c103 c104 c105 c106 c107 c108 c109 c110 c111 c112 c113 c114 c115 c116 c117 c118 c119 c120 c121 c122 c123 c124 c125 c126 c127 c128 c129 c130 c131 c132 c133 c134 c135 c136 c137 c138 c139 c140 m1 m2 m3 m4 m5 hc9 hok h hK
 ·exact r6_8 s lA lB ae ag aa ab ce cg ca cb B P w K Q c0 c1 c2 c3 c4 c5 c6 c7 c12 c13 c14 c15 c16 c17 c18 c19 c20 c21 c22 c23 c24 c25 c26 c27 c28 c29 c30 c31 c32 c33 c34 c35 c36 c37 c38 c39 c40 c41 c42 c43 c44 c45 c46 c47 c48 c49 c50 c51 c52 c53 c54 c55 c56 c57 c58 c59 c60 c61 c62 c63 c64 c65 c66 c67 c68 c69 c70 c71 c72 c73 c74 c75 c76 c77 c78 c79 c80 c81 c82 c83 c84 c85 c86 c87 c88 c89 c90 c91 c92 c93 c94 c95 c96 c97 c98 c99 c100 c101 c102 c103 c104 c105 c106 c107 c108 c109 c110 c111 c112 c113 c114 c115 c116 c117 c118 c119 c120 c121 c122 c123 c124 c125 c126 c127 c128 c129 c130 c131 c132 c133 c134 c135 c136 c137 c138 c139 c140 m1 m2 m3 m4 m5 hc9 hok h hK
end Go.Proofs.YtfaokaohhchdhaaGreatDoor
