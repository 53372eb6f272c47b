import Derived.Test.YtehlppaidgkpaaaGreatDoorPart00
import Derived.Test.YtehlppaidgkpaaaGreatDoorEnc
namespace Go.Proofs.YtehlppaidgkpaaaGreatDoor
open Go.RowKit
set_option linter.unusedVariables false
set_option linter.unusedSimpArgs false
set_option maxHeartbeats 6400000 in
set_option maxRecDepth 100000 in
theorem Zbf {Q:Exit→Act→World→Prop} (s1 s2 s3 s4 s7 s8 s9 s10 s11 s12 s13 s14 s15 s16 s17 s18 s19 s20 s21 s22 s23 s24 s25 s26 s27 s28 s29 s30 s31 s32 s33 s34 s35 s36 s37 s38 s39 s40 s41 s42 s43 s44 s45 s46 s47 s48 s49 s50 s51 s52 s53 s54 s55 s56 s57 s58 s59 s60 s61 s62 s63 s64 s65 s66 s67 s68 s69 s70 s71 s72 s73 s74 s75 s76 s77 s78 s79 s80 s81 s82 s83 s84 s85 s86 s87 s88 s89 s90 s91 s92 s93 s94 s95 s96 s97 s98 s99 s100 s101 s102 s103 s104 s105 s106 s107 s108 s109 s110 s111 s112 s113 s114 s115 s116 s117 s118 s119 s120 s121 s122 s123 s124 s125 s126 s127 s128:Value) (g o A r1 x0 x1 x2 x3 m0 m1 m2 m3 n0 n1 n2 n3:Nat) (wr:World)
  (k0:Hid (∀ u,Below (A+1) wr u→Calls Tryz.prog 265 #[.pointer (some ⟨g,o,none⟩),.int .u32 (x0:Nat),.int .u32 (x3:Nat),.int .u32 (x2:Nat),.int .u32 (x1:Nat)] u fun e u'=>e=.returned (.int .u32 (m0:Nat))∧Below (A+1) wr u'))
  (k1:Hid (∀ u,Below (A+1) wr u→Calls Tryz.prog 265 #[.pointer (some ⟨g,o,none⟩),.int .u32 (x1:Nat),.int .u32 (x0:Nat),.int .u32 (x3:Nat),.int .u32 (x2:Nat)] u fun e u'=>e=.returned (.int .u32 (m1:Nat))∧Below (A+1) wr u'))
  (k2:Hid (∀ u,Below (A+1) wr u→Calls Tryz.prog 265 #[.pointer (some ⟨g,o,none⟩),.int .u32 (x2:Nat),.int .u32 (x1:Nat),.int .u32 (x0:Nat),.int .u32 (x3:Nat)] u fun e u'=>e=.returned (.int .u32 (m2:Nat))∧Below (A+1) wr u'))
  (k3:Hid (∀ u,Below (A+1) wr u→Calls Tryz.prog 265 #[.pointer (some ⟨g,o,none⟩),.int .u32 (x3:Nat),.int .u32 (x2:Nat),.int .u32 (x1:Nat),.int .u32 (x0:Nat)] u fun e u'=>e=.returned (.int .u32 (m3:Nat))∧Below (A+1) wr u'))
  (ka:Hid (∀ u,Below (A+1) wr u→Calls Tryz.prog 86 #[.pointer (some ⟨g,o,none⟩),.agg #[.int .u32 (m0:Nat),.int .u32 (m1:Nat),.int .u32 (m2:Nat),.int .u32 (m3:Nat)],.int .i64 (r1:Nat)] u fun e u'=>e=.returned (.agg #[.int .u32 (n0:Nat),.int .u32 (n1:Nat),.int .u32 (n2:Nat),.int .u32 (n3:Nat)])∧Below (A+1) wr u'))
  (g0:Hid (∀ u,Below (A+1) wr u→u.cell? ⟨A,0,none⟩=some (.int .u32 (x0:Nat))))
  (g1:Hid (∀ u,Below (A+1) wr u→u.cell? ⟨A,1,none⟩=some (.int .u32 (x1:Nat))))
  (g2:Hid (∀ u,Below (A+1) wr u→u.cell? ⟨A,2,none⟩=some (.int .u32 (x2:Nat))))
  (g3:Hid (∀ u,Below (A+1) wr u→u.cell? ⟨A,3,none⟩=some (.int .u32 (x3:Nat))))
  (hth:wr.there A 0 4)
  (HQ:∀ u4,Below (A+1) wr u4→Q .normal ⟨#[.pointer (some ⟨g,o,none⟩),s1,s2,s3,s4,.pointer (some ⟨A,0,none⟩),.int .i64 (r1:Nat),s7,s8,s9,s10,s11,s12,s13,s14,s15,s16,s17,s18,s19,s20,s21,s22,s23,.pointer (some ⟨g,o,none⟩),.pointer (some ⟨g,o,none⟩),.pointer (some ⟨A,0,none⟩),.int .u32 (x0:Nat),.pointer (some ⟨A,3,none⟩),.int .u32 (x3:Nat),.pointer (some ⟨A,2,none⟩),.int .u32 (x2:Nat),.pointer (some ⟨A,1,none⟩),.int .u32 (x1:Nat),.int .u32 (m0:Nat),.pointer (some ⟨g,o,none⟩),.pointer (some ⟨A,1,none⟩),.int .u32 (x1:Nat),.pointer (some ⟨A,0,none⟩),.int .u32 (x0:Nat),.pointer (some ⟨A,3,none⟩),.int .u32 (x3:Nat),.pointer (some ⟨A,2,none⟩),.int .u32 (x2:Nat),.int .u32 (m1:Nat),.pointer (some ⟨g,o,none⟩),.pointer (some ⟨A,2,none⟩),.int .u32 (x2:Nat),.pointer (some ⟨A,1,none⟩),.int .u32 (x1:Nat),.pointer (some ⟨A,0,none⟩),.int .u32 (x0:Nat),.pointer (some ⟨A,3,none⟩),.int .u32 (x3:Nat),.int .u32 (m2:Nat),.pointer (some ⟨g,o,none⟩),.pointer (some ⟨A,3,none⟩),.int .u32 (x3:Nat),.pointer (some ⟨A,2,none⟩),.int .u32 (x2:Nat),.pointer (some ⟨A,1,none⟩),.int .u32 (x1:Nat),.pointer (some ⟨A,0,none⟩),.int .u32 (x0:Nat),.int .u32 (m3:Nat),.agg #[.int .u32 (m0:Nat),.int .u32 (m1:Nat),.int .u32 (m2:Nat),.int .u32 (m3:Nat)],.int .i64 (r1:Nat),.agg #[.int .u32 (n0:Nat),.int .u32 (n1:Nat),.int .u32 (n2:Nat),.int .u32 (n3:Nat)],s68,s69,s70,s71,s72,s73,s74,s75,s76,s77,s78,s79,s80,s81,s82,s83,s84,s85,s86,s87,s88,s89,s90,s91,s92,s93,s94,s95,s96,s97,s98,s99,s100,s101,s102,s103,s104,s105,s106,s107,s108,s109,s110,s111,s112,s113,s114,s115,s116,s117,s118,s119,s120,s121,s122,s123,s124,s125,s126,s127,s128],[]⟩ (u4.setCells A 0 [.int .u32 (n0:Nat),.int .u32 (n1:Nat),.int .u32 (n2:Nat),.int .u32 (n3:Nat)])) :
  (Code.region 5 #[{ dst:=some 24,op:=Op.move (Operand.tmp 0),type:=175,pos:="cipher.go:122",after:=#[],guard:=none },{ dst:=some 25,op:=Op.move (Operand.tmp 0),type:=175,pos:="cipher.go:122",after:=#[],guard:=none },{ dst:=some 26,op:=Op.indexAddr 177 (Operand.tmp 5) (Operand.const (Value.int IntKind.i64 0)),type:=0,pos:="cipher.go:122",after:=#[],guard:=none },{ dst:=some 27,op:=Op.load 116 (Operand.tmp 26),type:=116,pos:="cipher.go:122",after:=#[{ on:=2,ground:=Ground.data }],guard:=none },{ dst:=some 28,op:=Op.indexAddr 177 (Operand.tmp 5) (Operand.const (Value.int IntKind.i64 3)),type:=0,pos:="cipher.go:122",after:=#[],guard:=none },{ dst:=some 29,op:=Op.load 116 (Operand.tmp 28),type:=116,pos:="cipher.go:122",after:=#[{ on:=4,ground:=Ground.data }],guard:=none },{ dst:=some 30,op:=Op.indexAddr 177 (Operand.tmp 5) (Operand.const (Value.int IntKind.i64 2)),type:=0,pos:="cipher.go:122",after:=#[],guard:=none },{ dst:=some 31,op:=Op.load 116 (Operand.tmp 30),type:=116,pos:="cipher.go:122",after:=#[{ on:=6,ground:=Ground.data }],guard:=none },{ dst:=some 32,op:=Op.indexAddr 177 (Operand.tmp 5) (Operand.const (Value.int IntKind.i64 1)),type:=0,pos:="cipher.go:122",after:=#[],guard:=none },{ dst:=some 33,op:=Op.load 116 (Operand.tmp 32),type:=116,pos:="cipher.go:122",after:=#[{ on:=8,ground:=Ground.data }],guard:=none },{ dst:=some 34,op:=Op.call { callee:=Callee.value (Operand.func 265),args:=#[Operand.tmp 25,Operand.tmp 27,Operand.tmp 29,Operand.tmp 31,Operand.tmp 33],argTypes:=#[175,116,116,116,116] },type:=116,pos:="cipher.go:123",after:=#[{ on:=1,ground:=Ground.data },{ on:=3,ground:=Ground.data },{ on:=5,ground:=Ground.data },{ on:=7,ground:=Ground.data },{ on:=9,ground:=Ground.data }],guard:=none },{ dst:=some 35,op:=Op.move (Operand.tmp 0),type:=175,pos:="cipher.go:122",after:=#[],guard:=none },{ dst:=some 36,op:=Op.indexAddr 177 (Operand.tmp 5) (Operand.const (Value.int IntKind.i64 1)),type:=0,pos:="cipher.go:122",after:=#[],guard:=none },{ dst:=some 37,op:=Op.load 116 (Operand.tmp 36),type:=116,pos:="cipher.go:122",after:=#[{ on:=12,ground:=Ground.data }],guard:=none },{ dst:=some 38,op:=Op.indexAddr 177 (Operand.tmp 5) (Operand.const (Value.int IntKind.i64 0)),type:=0,pos:="cipher.go:122",after:=#[],guard:=none },{ dst:=some 39,op:=Op.load 116 (Operand.tmp 38),type:=116,pos:="cipher.go:122",after:=#[{ on:=14,ground:=Ground.data }],guard:=none },{ dst:=some 40,op:=Op.indexAddr 177 (Operand.tmp 5) (Operand.const (Value.int IntKind.i64 3)),type:=0,pos:="cipher.go:122",after:=#[],guard:=none },{ dst:=some 41,op:=Op.load 116 (Operand.tmp 40),type:=116,pos:="cipher.go:122",after:=#[{ on:=16,ground:=Ground.data }],guard:=none },{ dst:=some 42,op:=Op.indexAddr 177 (Operand.tmp 5) (Operand.const (Value.int IntKind.i64 2)),type:=0,pos:="cipher.go:122",after:=#[],guard:=none },{ dst:=some 43,op:=Op.load 116 (Operand.tmp 42),type:=116,pos:="cipher.go:122",after:=#[{ on:=18,ground:=Ground.data }],guard:=none },{ dst:=some 44,op:=Op.call { callee:=Callee.value (Operand.func 265),args:=#[Operand.tmp 35,Operand.tmp 37,Operand.tmp 39,Operand.tmp 41,Operand.tmp 43],argTypes:=#[175,116,116,116,116] },type:=116,pos:="cipher.go:124",after:=#[{ on:=11,ground:=Ground.data },{ on:=13,ground:=Ground.data },{ on:=15,ground:=Ground.data },{ on:=17,ground:=Ground.data },{ on:=19,ground:=Ground.data },{ on:=10,ground:=Ground.chain }],guard:=none },{ dst:=some 45,op:=Op.move (Operand.tmp 0),type:=175,pos:="cipher.go:122",after:=#[],guard:=none },{ dst:=some 46,op:=Op.indexAddr 177 (Operand.tmp 5) (Operand.const (Value.int IntKind.i64 2)),type:=0,pos:="cipher.go:122",after:=#[],guard:=none },{ dst:=some 47,op:=Op.load 116 (Operand.tmp 46),type:=116,pos:="cipher.go:122",after:=#[{ on:=22,ground:=Ground.data }],guard:=none },{ dst:=some 48,op:=Op.indexAddr 177 (Operand.tmp 5) (Operand.const (Value.int IntKind.i64 1)),type:=0,pos:="cipher.go:122",after:=#[],guard:=none },{ dst:=some 49,op:=Op.load 116 (Operand.tmp 48),type:=116,pos:="cipher.go:122",after:=#[{ on:=24,ground:=Ground.data }],guard:=none },{ dst:=some 50,op:=Op.indexAddr 177 (Operand.tmp 5) (Operand.const (Value.int IntKind.i64 0)),type:=0,pos:="cipher.go:122",after:=#[],guard:=none },{ dst:=some 51,op:=Op.load 116 (Operand.tmp 50),type:=116,pos:="cipher.go:122",after:=#[{ on:=26,ground:=Ground.data }],guard:=none },{ dst:=some 52,op:=Op.indexAddr 177 (Operand.tmp 5) (Operand.const (Value.int IntKind.i64 3)),type:=0,pos:="cipher.go:122",after:=#[],guard:=none },{ dst:=some 53,op:=Op.load 116 (Operand.tmp 52),type:=116,pos:="cipher.go:122",after:=#[{ on:=28,ground:=Ground.data }],guard:=none },{ dst:=some 54,op:=Op.call { callee:=Callee.value (Operand.func 265),args:=#[Operand.tmp 45,Operand.tmp 47,Operand.tmp 49,Operand.tmp 51,Operand.tmp 53],argTypes:=#[175,116,116,116,116] },type:=116,pos:="cipher.go:125",after:=#[{ on:=21,ground:=Ground.data },{ on:=23,ground:=Ground.data },{ on:=25,ground:=Ground.data },{ on:=27,ground:=Ground.data },{ on:=29,ground:=Ground.data },{ on:=20,ground:=Ground.chain }],guard:=none },{ dst:=some 55,op:=Op.move (Operand.tmp 0),type:=175,pos:="cipher.go:122",after:=#[],guard:=none },{ dst:=some 56,op:=Op.indexAddr 177 (Operand.tmp 5) (Operand.const (Value.int IntKind.i64 3)),type:=0,pos:="cipher.go:122",after:=#[],guard:=none },{ dst:=some 57,op:=Op.load 116 (Operand.tmp 56),type:=116,pos:="cipher.go:122",after:=#[{ on:=32,ground:=Ground.data }],guard:=none },{ dst:=some 58,op:=Op.indexAddr 177 (Operand.tmp 5) (Operand.const (Value.int IntKind.i64 2)),type:=0,pos:="cipher.go:122",after:=#[],guard:=none },{ dst:=some 59,op:=Op.load 116 (Operand.tmp 58),type:=116,pos:="cipher.go:122",after:=#[{ on:=34,ground:=Ground.data }],guard:=none },{ dst:=some 60,op:=Op.indexAddr 177 (Operand.tmp 5) (Operand.const (Value.int IntKind.i64 1)),type:=0,pos:="cipher.go:122",after:=#[],guard:=none },{ dst:=some 61,op:=Op.load 116 (Operand.tmp 60),type:=116,pos:="cipher.go:122",after:=#[{ on:=36,ground:=Ground.data }],guard:=none },{ dst:=some 62,op:=Op.indexAddr 177 (Operand.tmp 5) (Operand.const (Value.int IntKind.i64 0)),type:=0,pos:="cipher.go:122",after:=#[],guard:=none },{ dst:=some 63,op:=Op.load 116 (Operand.tmp 62),type:=116,pos:="cipher.go:122",after:=#[{ on:=38,ground:=Ground.data }],guard:=none },{ dst:=some 64,op:=Op.call { callee:=Callee.value (Operand.func 265),args:=#[Operand.tmp 55,Operand.tmp 57,Operand.tmp 59,Operand.tmp 61,Operand.tmp 63],argTypes:=#[175,116,116,116,116] },type:=116,pos:="cipher.go:126",after:=#[{ on:=31,ground:=Ground.data },{ on:=33,ground:=Ground.data },{ on:=35,ground:=Ground.data },{ on:=37,ground:=Ground.data },{ on:=39,ground:=Ground.data },{ on:=30,ground:=Ground.chain }],guard:=none },{ dst:=some 65,op:=Op.build 177 #[(0,Operand.tmp 34),(1,Operand.tmp 44),(2,Operand.tmp 54),(3,Operand.tmp 64)],type:=177,pos:="cipher.go:122",after:=#[{ on:=10,ground:=Ground.data },{ on:=20,ground:=Ground.data },{ on:=30,ground:=Ground.data },{ on:=40,ground:=Ground.data }],guard:=none },{ dst:=some 66,op:=Op.move (Operand.tmp 6),type:=3,pos:="cipher.go:122",after:=#[],guard:=none },{ dst:=some 67,op:=Op.call { callee:=Callee.value (Operand.func 86),args:=#[Operand.tmp 24,Operand.tmp 65,Operand.tmp 66],argTypes:=#[175,177,3] },type:=177,pos:="cipher.go:122",after:=#[{ on:=0,ground:=Ground.data },{ on:=41,ground:=Ground.data },{ on:=42,ground:=Ground.data },{ on:=40,ground:=Ground.chain }],guard:=none },{ dst:=none,op:=Op.store 177 (Operand.tmp 5) (Operand.tmp 67),type:=0,pos:="cipher.go:122",after:=#[{ on:=43,ground:=Ground.data },{ on:=43,ground:=Ground.chain },{ on:=0,ground:=Ground.phase },{ on:=1,ground:=Ground.phase },{ on:=2,ground:=Ground.phase },{ on:=3,ground:=Ground.phase },{ on:=4,ground:=Ground.phase },{ on:=5,ground:=Ground.phase },{ on:=6,ground:=Ground.phase },{ on:=7,ground:=Ground.phase },{ on:=8,ground:=Ground.phase },{ on:=9,ground:=Ground.phase },{ on:=10,ground:=Ground.phase },{ on:=11,ground:=Ground.phase },{ on:=12,ground:=Ground.phase },{ on:=13,ground:=Ground.phase },{ on:=14,ground:=Ground.phase },{ on:=15,ground:=Ground.phase },{ on:=16,ground:=Ground.phase },{ on:=17,ground:=Ground.phase },{ on:=18,ground:=Ground.phase },{ on:=19,ground:=Ground.phase },{ on:=20,ground:=Ground.phase },{ on:=21,ground:=Ground.phase },{ on:=22,ground:=Ground.phase },{ on:=23,ground:=Ground.phase },{ on:=24,ground:=Ground.phase },{ on:=25,ground:=Ground.phase },{ on:=26,ground:=Ground.phase },{ on:=27,ground:=Ground.phase },{ on:=28,ground:=Ground.phase },{ on:=29,ground:=Ground.phase },{ on:=30,ground:=Ground.phase },{ on:=31,ground:=Ground.phase },{ on:=32,ground:=Ground.phase },{ on:=33,ground:=Ground.phase },{ on:=34,ground:=Ground.phase },{ on:=35,ground:=Ground.phase },{ on:=36,ground:=Ground.phase },{ on:=37,ground:=Ground.phase },{ on:=38,ground:=Ground.phase },{ on:=39,ground:=Ground.phase },{ on:=40,ground:=Ground.phase },{ on:=41,ground:=Ground.phase },{ on:=42,ground:=Ground.phase },{ on:=43,ground:=Ground.phase }],guard:=none }] true).wp Tryz.prog Q ⟨#[.pointer (some ⟨g,o,none⟩),s1,s2,s3,s4,.pointer (some ⟨A,0,none⟩),.int .i64 (r1:Nat),s7,s8,s9,s10,s11,s12,s13,s14,s15,s16,s17,s18,s19,s20,s21,s22,s23,s24,s25,s26,s27,s28,s29,s30,s31,s32,s33,s34,s35,s36,s37,s38,s39,s40,s41,s42,s43,s44,s45,s46,s47,s48,s49,s50,s51,s52,s53,s54,s55,s56,s57,s58,s59,s60,s61,s62,s63,s64,s65,s66,s67,s68,s69,s70,s71,s72,s73,s74,s75,s76,s77,s78,s79,s80,s81,s82,s83,s84,s85,s86,s87,s88,s89,s90,s91,s92,s93,s94,s95,s96,s97,s98,s99,s100,s101,s102,s103,s104,s105,s106,s107,s108,s109,s110,s111,s112,s113,s114,s115,s116,s117,s118,s119,s120,s121,s122,s123,s124,s125,s126,s127,s128],[]⟩ wr:=by
 have hS0:Below (A+1) wr wr.drew:=(Below.refl _ _).drew
 refine wp_region_noPanic ?_
 refine Z3 (fun u=>Below (A+1) wr u) 43 (by kernel_rfl) (by decide) (by decide +kernel) (by decide +kernel) (by decide +kernel) (fun inv=>?_)
 refine tT 0 24 (.pointer (some ⟨g,o,none⟩)) inv rfl rfl (by decide +kernel) (hS0) (Or.inl ⟨by rfl,fun w' hS'=>by go_simp⟩) (fun inv=>?_)
 simp only[pU]
 refine tT 1 25 (.pointer (some ⟨g,o,none⟩)) inv rfl rfl (by decide +kernel) (hS0) (Or.inl ⟨by rfl,fun w' hS'=>by go_simp⟩) (fun inv=>?_)
 simp only[pU]
 refine tT 2 26 (.pointer (some ⟨A,0,none⟩)) inv rfl rfl (by decide +kernel) (hS0) (Or.inl ⟨by rfl,fun w' hS'=>by go_simp⟩) (fun inv=>?_)
 simp only[pU]
 refine tT 3 27 (.int .u32 (x0:Nat)) inv rfl rfl (by decide +kernel) (hS0) (Or.inl ⟨by rfl,fun w' hS'=>by have q:=g0.out w' hS';go_simp⟩) (fun inv=>?_)
 simp only[pU]
 refine tT 4 28 (.pointer (some ⟨A,3,none⟩)) inv rfl rfl (by decide +kernel) (hS0) (Or.inl ⟨by rfl,fun w' hS'=>by go_simp⟩) (fun inv=>?_)
 simp only[pU]
 refine tT 5 29 (.int .u32 (x3:Nat)) inv rfl rfl (by decide +kernel) (hS0) (Or.inl ⟨by rfl,fun w' hS'=>by have q:=g3.out w' hS';go_simp⟩) (fun inv=>?_)
 simp only[pU]
 refine tT 6 30 (.pointer (some ⟨A,2,none⟩)) inv rfl rfl (by decide +kernel) (hS0) (Or.inl ⟨by rfl,fun w' hS'=>by go_simp⟩) (fun inv=>?_)
 simp only[pU]
 refine tT 7 31 (.int .u32 (x2:Nat)) inv rfl rfl (by decide +kernel) (hS0) (Or.inl ⟨by rfl,fun w' hS'=>by have q:=g2.out w' hS';go_simp⟩) (fun inv=>?_)
 simp only[pU]
 refine tT 8 32 (.pointer (some ⟨A,1,none⟩)) inv rfl rfl (by decide +kernel) (hS0) (Or.inl ⟨by rfl,fun w' hS'=>by go_simp⟩) (fun inv=>?_)
 simp only[pU]
 refine tT 9 33 (.int .u32 (x1:Nat)) inv rfl rfl (by decide +kernel) (hS0) (Or.inl ⟨by rfl,fun w' hS'=>by have q:=g1.out w' hS';go_simp⟩) (fun inv=>?_)
 simp only[pU]
 refine tT 11 35 (.pointer (some ⟨g,o,none⟩)) inv rfl rfl (by decide +kernel) (hS0) (Or.inl ⟨by rfl,fun w' hS'=>by go_simp⟩) (fun inv=>?_)
 simp only[pU]
 refine tT 12 36 (.pointer (some ⟨A,1,none⟩)) inv rfl rfl (by decide +kernel) (hS0) (Or.inl ⟨by rfl,fun w' hS'=>by go_simp⟩) (fun inv=>?_)
 simp only[pU]
 refine tT 13 37 (.int .u32 (x1:Nat)) inv rfl rfl (by decide +kernel) (hS0) (Or.inl ⟨by rfl,fun w' hS'=>by have q:=g1.out w' hS';go_simp⟩) (fun inv=>?_)
 simp only[pU]
 refine tT 14 38 (.pointer (some ⟨A,0,none⟩)) inv rfl rfl (by decide +kernel) (hS0) (Or.inl ⟨by rfl,fun w' hS'=>by go_simp⟩) (fun inv=>?_)
 simp only[pU]
 refine tT 15 39 (.int .u32 (x0:Nat)) inv rfl rfl (by decide +kernel) (hS0) (Or.inl ⟨by rfl,fun w' hS'=>by have q:=g0.out w' hS';go_simp⟩) (fun inv=>?_)
 simp only[pU]
 refine tT 16 40 (.pointer (some ⟨A,3,none⟩)) inv rfl rfl (by decide +kernel) (hS0) (Or.inl ⟨by rfl,fun w' hS'=>by go_simp⟩) (fun inv=>?_)
 simp only[pU]
 refine tT 17 41 (.int .u32 (x3:Nat)) inv rfl rfl (by decide +kernel) (hS0) (Or.inl ⟨by rfl,fun w' hS'=>by have q:=g3.out w' hS';go_simp⟩) (fun inv=>?_)
 simp only[pU]
 refine tT 18 42 (.pointer (some ⟨A,2,none⟩)) inv rfl rfl (by decide +kernel) (hS0) (Or.inl ⟨by rfl,fun w' hS'=>by go_simp⟩) (fun inv=>?_)
 simp only[pU]
 refine tT 19 43 (.int .u32 (x2:Nat)) inv rfl rfl (by decide +kernel) (hS0) (Or.inl ⟨by rfl,fun w' hS'=>by have q:=g2.out w' hS';go_simp⟩) (fun inv=>?_)
 simp only[pU]
 refine tT 21 45 (.pointer (some ⟨g,o,none⟩)) inv rfl rfl (by decide +kernel) (hS0) (Or.inl ⟨by rfl,fun w' hS'=>by go_simp⟩) (fun inv=>?_)
 simp only[pU]
 refine tT 22 46 (.pointer (some ⟨A,2,none⟩)) inv rfl rfl (by decide +kernel) (hS0) (Or.inl ⟨by rfl,fun w' hS'=>by go_simp⟩) (fun inv=>?_)
 simp only[pU]
 refine tT 23 47 (.int .u32 (x2:Nat)) inv rfl rfl (by decide +kernel) (hS0) (Or.inl ⟨by rfl,fun w' hS'=>by have q:=g2.out w' hS';go_simp⟩) (fun inv=>?_)
 simp only[pU]
 refine tT 24 48 (.pointer (some ⟨A,1,none⟩)) inv rfl rfl (by decide +kernel) (hS0) (Or.inl ⟨by rfl,fun w' hS'=>by go_simp⟩) (fun inv=>?_)
 simp only[pU]
 refine tT 25 49 (.int .u32 (x1:Nat)) inv rfl rfl (by decide +kernel) (hS0) (Or.inl ⟨by rfl,fun w' hS'=>by have q:=g1.out w' hS';go_simp⟩) (fun inv=>?_)
 simp only[pU]
 refine tT 26 50 (.pointer (some ⟨A,0,none⟩)) inv rfl rfl (by decide +kernel) (hS0) (Or.inl ⟨by rfl,fun w' hS'=>by go_simp⟩) (fun inv=>?_)
 simp only[pU]
 refine tT 27 51 (.int .u32 (x0:Nat)) inv rfl rfl (by decide +kernel) (hS0) (Or.inl ⟨by rfl,fun w' hS'=>by have q:=g0.out w' hS';go_simp⟩) (fun inv=>?_)
 simp only[pU]
 refine tT 28 52 (.pointer (some ⟨A,3,none⟩)) inv rfl rfl (by decide +kernel) (hS0) (Or.inl ⟨by rfl,fun w' hS'=>by go_simp⟩) (fun inv=>?_)
 simp only[pU]
 refine tT 29 53 (.int .u32 (x3:Nat)) inv rfl rfl (by decide +kernel) (hS0) (Or.inl ⟨by rfl,fun w' hS'=>by have q:=g3.out w' hS';go_simp⟩) (fun inv=>?_)
 simp only[pU]
 refine tT 31 55 (.pointer (some ⟨g,o,none⟩)) inv rfl rfl (by decide +kernel) (hS0) (Or.inl ⟨by rfl,fun w' hS'=>by go_simp⟩) (fun inv=>?_)
 simp only[pU]
 refine tT 32 56 (.pointer (some ⟨A,3,none⟩)) inv rfl rfl (by decide +kernel) (hS0) (Or.inl ⟨by rfl,fun w' hS'=>by go_simp⟩) (fun inv=>?_)
 simp only[pU]
 refine tT 33 57 (.int .u32 (x3:Nat)) inv rfl rfl (by decide +kernel) (hS0) (Or.inl ⟨by rfl,fun w' hS'=>by have q:=g3.out w' hS';go_simp⟩) (fun inv=>?_)
 simp only[pU]
 refine tT 34 58 (.pointer (some ⟨A,2,none⟩)) inv rfl rfl (by decide +kernel) (hS0) (Or.inl ⟨by rfl,fun w' hS'=>by go_simp⟩) (fun inv=>?_)
 simp only[pU]
 refine tT 35 59 (.int .u32 (x2:Nat)) inv rfl rfl (by decide +kernel) (hS0) (Or.inl ⟨by rfl,fun w' hS'=>by have q:=g2.out w' hS';go_simp⟩) (fun inv=>?_)
 simp only[pU]
 refine tT 36 60 (.pointer (some ⟨A,1,none⟩)) inv rfl rfl (by decide +kernel) (hS0) (Or.inl ⟨by rfl,fun w' hS'=>by go_simp⟩) (fun inv=>?_)
 simp only[pU]
 refine tT 37 61 (.int .u32 (x1:Nat)) inv rfl rfl (by decide +kernel) (hS0) (Or.inl ⟨by rfl,fun w' hS'=>by have q:=g1.out w' hS';go_simp⟩) (fun inv=>?_)
 simp only[pU]
 refine tT 38 62 (.pointer (some ⟨A,0,none⟩)) inv rfl rfl (by decide +kernel) (hS0) (Or.inl ⟨by rfl,fun w' hS'=>by go_simp⟩) (fun inv=>?_)
 simp only[pU]
 refine tT 39 63 (.int .u32 (x0:Nat)) inv rfl rfl (by decide +kernel) (hS0) (Or.inl ⟨by rfl,fun w' hS'=>by have q:=g0.out w' hS';go_simp⟩) (fun inv=>?_)
 simp only[pU]
 refine tT 42 66 (.int .i64 (r1:Nat)) inv rfl rfl (by decide +kernel) (hS0) (Or.inl ⟨by rfl,fun w' hS'=>by go_simp⟩) (fun inv=>?_)
 simp only[pU]
 refine Zo (i:=10) inv (by decide +kernel) (by decide) rfl (fun K hK=>?_)
 go_simp
 refine (k0.out _ hS0).mono ?_
 rintro e1 u0 ⟨rfl,hu0⟩
 go_wp2_with fail
 refine hK.out _ _ hu0 (fun inv'=>?_)
 clear hK K inv;have inv:=inv';clear inv'
 try simp only[pU]
 refine Zo (i:=20) inv (by decide +kernel) (by decide) rfl (fun K hK=>?_)
 go_simp
 refine (k1.out _ hu0).mono ?_
 rintro e1 u1 ⟨rfl,hu1⟩
 go_wp2_with fail
 refine hK.out _ _ hu1 (fun inv'=>?_)
 clear hK K inv;have inv:=inv';clear inv'
 try simp only[pU]
 refine Zo (i:=30) inv (by decide +kernel) (by decide) rfl (fun K hK=>?_)
 go_simp
 refine (k2.out _ hu1).mono ?_
 rintro e1 u2 ⟨rfl,hu2⟩
 go_wp2_with fail
 refine hK.out _ _ hu2 (fun inv'=>?_)
 clear hK K inv;have inv:=inv';clear inv'
 try simp only[pU]
 refine Zo (i:=40) inv (by decide +kernel) (by decide) rfl (fun K hK=>?_)
 go_simp
 refine (k3.out _ hu2).mono ?_
 rintro e1 u3 ⟨rfl,hu3⟩
 go_wp2_with fail
 refine hK.out _ _ hu3 (fun inv'=>?_)
 clear hK K inv;have inv:=inv';clear inv'
 try simp only[pU]
 refine tT 41 65 (.agg #[.int .u32 (m0:Nat),.int .u32 (m1:Nat),.int .u32 (m2:Nat),.int .u32 (m3:Nat)]) inv rfl rfl (by decide +kernel) (hu3) (Yx (by rfl) 177 #[(0,.tmp 34),(1,.tmp 44),(2,.tmp 54),(3,.tmp 64)] rfl _ (by simp only[List.map_toArray,List.map_cons,List.map_nil];kernel_rfl)) (fun inv=>?_)
 simp only[pU]
 refine Zn (i:=43) (by decide +kernel) (by decide) rfl (fun K hK=>?_)
 go_simp
 refine (ka.out _ hu3).mono ?_
 rintro e1 u4 ⟨rfl,hu4⟩
 go_wp2_with fail
 refine hK.out _ _ ?_
 clear hK K
 try simp only[pU]
 refine Zn (i:=44) (by decide +kernel) (by decide) rfl (fun K hK=>?_)
 rw[if_pos (by rfl)]
 refine wp_store_mid 177 (.tmp 5) (.tmp 67) rfl A 0 #[.int .u32 (n0:Nat),.int .u32 (n1:Nat),.int .u32 (n2:Nat),.int .u32 (n3:Nat)] rfl rfl (Zh hth hu4 (Nat.lt_succ_self A)) (Kn) (by kernel_rfl) ?_
 refine hK.out _ _ ?_
 clear hK K
 try simp only[pU]
 refine Xj (by decide +kernel) ?_ _
 refine NoPanic.normal ?_
 exact HQ _ hu4
end Go.Proofs.YtehlppaidgkpaaaGreatDoor
