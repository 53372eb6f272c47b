import Derived.Test.YtehlppaidgkpaaaGreatDoorPart00
import Derived.Test.YtehlppaidgkpaaaGreatDoorEnc
namespace Go.Proofs.YtehlppaidgkpaaaGreatDoor
open Go.RowKit
set_option linter.unusedVariables false
set_option linter.unusedSimpArgs false
set_option maxHeartbeats 6400000 in
set_option maxRecDepth 100000 in
theorem Zbd {Q:Exit→Act→World→Prop} (s1 s2 s3 s6 s7 s8 s9 s10 s11 s12 s13 s14 s15 s16 s17 s18 s19 s20 s21 s22 s23 s24 s25 s26 s27 s28 s29 s30 s31 s32 s33 s34 s35 s36 s37 s38 s39 s40 s41 s42 s43 s44 s45 s46 s47 s48 s49 s50 s51 s52 s53 s54 s55 s56 s57 s58 s59 s60 s61 s62 s63 s64 s65 s66 s67 s68 s69 s70 s71 s72 s73 s74 s75 s76 s77 s78 s79 s80 s81 s82 s83 s84 s85 s86 s87 s88 s89 s90 s91 s92 s93 s94 s95 s96 s97 s98 s99 s100 s101 s102 s103 s104 s105 s106 s107 s108 s109 s110 s111 s112 s113 s114 s115 s116 s117 s118 s119 s120 s121 s122 s123 s124 s125 s126 s127 s128:Value) (g o A C x0 x1 x2 x3 m0 m1 m2 m3 n0 n1 n2 n3:Nat) (wr:World)
  (k0:Hid (∀ u,Below (A+1) wr u→Calls Tryz.prog 265 #[.pointer (some ⟨g,o,none⟩),.int .u32 (x0:Nat),.int .u32 (x3:Nat),.int .u32 (x2:Nat),.int .u32 (x1:Nat)] u fun e u'=>e=.returned (.int .u32 (m0:Nat))∧Below (A+1) wr u'))
  (k1:Hid (∀ u,Below (A+1) wr u→Calls Tryz.prog 265 #[.pointer (some ⟨g,o,none⟩),.int .u32 (x1:Nat),.int .u32 (x0:Nat),.int .u32 (x3:Nat),.int .u32 (x2:Nat)] u fun e u'=>e=.returned (.int .u32 (m1:Nat))∧Below (A+1) wr u'))
  (k2:Hid (∀ u,Below (A+1) wr u→Calls Tryz.prog 265 #[.pointer (some ⟨g,o,none⟩),.int .u32 (x2:Nat),.int .u32 (x1:Nat),.int .u32 (x0:Nat),.int .u32 (x3:Nat)] u fun e u'=>e=.returned (.int .u32 (m2:Nat))∧Below (A+1) wr u'))
  (k3:Hid (∀ u,Below (A+1) wr u→Calls Tryz.prog 265 #[.pointer (some ⟨g,o,none⟩),.int .u32 (x3:Nat),.int .u32 (x2:Nat),.int .u32 (x1:Nat),.int .u32 (x0:Nat)] u fun e u'=>e=.returned (.int .u32 (m3:Nat))∧Below (A+1) wr u'))
  (ka:Hid (∀ u,Below (A+1) wr u→Calls Tryz.prog 86 #[.pointer (some ⟨g,o,none⟩),.agg #[.int .u32 (m0:Nat),.int .u32 (m1:Nat),.int .u32 (m2:Nat),.int .u32 (m3:Nat)],.int .i64 0] u fun e u'=>e=.returned (.agg #[.int .u32 (n0:Nat),.int .u32 (n1:Nat),.int .u32 (n2:Nat),.int .u32 (n3:Nat)])∧Below (A+1) wr u'))
  (kt:Hid (∀ u,Calls Tryz.prog 89 #[.agg #[.int .u32 (n0:Nat),.int .u32 (n1:Nat),.int .u32 (n2:Nat),.int .u32 (n3:Nat)]] u fun e u'=>e=.returned (.agg #[.int .u8 (bt0 n0:Nat),.int .u8 (bt1 n0:Nat),.int .u8 (bt2 n0:Nat),.int .u8 (bt3 n0:Nat),.int .u8 (bt0 n1:Nat),.int .u8 (bt1 n1:Nat),.int .u8 (bt2 n1:Nat),.int .u8 (bt3 n1:Nat),.int .u8 (bt0 n2:Nat),.int .u8 (bt1 n2:Nat),.int .u8 (bt2 n2:Nat),.int .u8 (bt3 n2:Nat),.int .u8 (bt0 n3:Nat),.int .u8 (bt1 n3:Nat),.int .u8 (bt2 n3:Nat),.int .u8 (bt3 n3:Nat)])∧Below u.heap.size u u'))
  (g0:Hid (∀ u,Below (A+1) wr u→u.cell? ⟨A,0,none⟩=some (.int .u32 (x0:Nat))))
  (g1:Hid (∀ u,Below (A+1) wr u→u.cell? ⟨A,1,none⟩=some (.int .u32 (x1:Nat))))
  (g2:Hid (∀ u,Below (A+1) wr u→u.cell? ⟨A,2,none⟩=some (.int .u32 (x2:Nat))))
  (g3:Hid (∀ u,Below (A+1) wr u→u.cell? ⟨A,3,none⟩=some (.int .u32 (x3:Nat))))
  (hth:∀ u4 u5,Below (A+1) wr u4→Below u4.heap.size u4 u5→u5.there C 0 16)
  (HQ:∀ u4 u5,Below (A+1) wr u4→Below u4.heap.size u4 u5→Q .normal ⟨#[.pointer (some ⟨g,o,none⟩),s1,s2,s3,.pointer (some ⟨C,0,none⟩),.pointer (some ⟨A,0,none⟩),s6,s7,s8,s9,s10,s11,s12,s13,s14,s15,s16,s17,s18,s19,s20,s21,s22,s23,s24,s25,s26,s27,s28,s29,s30,s31,s32,s33,s34,s35,s36,s37,s38,s39,s40,s41,s42,s43,s44,s45,s46,s47,s48,s49,s50,s51,s52,s53,s54,s55,s56,s57,s58,s59,s60,s61,s62,s63,s64,s65,s66,s67,s68,s69,s70,s71,s72,s73,s74,s75,s76,s77,s78,s79,s80,s81,s82,s83,s84,.pointer (some ⟨g,o,none⟩),.pointer (some ⟨g,o,none⟩),.pointer (some ⟨A,0,none⟩),.int .u32 (x0:Nat),.pointer (some ⟨A,3,none⟩),.int .u32 (x3:Nat),.pointer (some ⟨A,2,none⟩),.int .u32 (x2:Nat),.pointer (some ⟨A,1,none⟩),.int .u32 (x1:Nat),.int .u32 (m0:Nat),.pointer (some ⟨g,o,none⟩),.pointer (some ⟨A,1,none⟩),.int .u32 (x1:Nat),.pointer (some ⟨A,0,none⟩),.int .u32 (x0:Nat),.pointer (some ⟨A,3,none⟩),.int .u32 (x3:Nat),.pointer (some ⟨A,2,none⟩),.int .u32 (x2:Nat),.int .u32 (m1:Nat),.pointer (some ⟨g,o,none⟩),.pointer (some ⟨A,2,none⟩),.int .u32 (x2:Nat),.pointer (some ⟨A,1,none⟩),.int .u32 (x1:Nat),.pointer (some ⟨A,0,none⟩),.int .u32 (x0:Nat),.pointer (some ⟨A,3,none⟩),.int .u32 (x3:Nat),.int .u32 (m2:Nat),.pointer (some ⟨g,o,none⟩),.pointer (some ⟨A,3,none⟩),.int .u32 (x3:Nat),.pointer (some ⟨A,2,none⟩),.int .u32 (x2:Nat),.pointer (some ⟨A,1,none⟩),.int .u32 (x1:Nat),.pointer (some ⟨A,0,none⟩),.int .u32 (x0:Nat),.int .u32 (m3:Nat),.agg #[.int .u32 (m0:Nat),.int .u32 (m1:Nat),.int .u32 (m2:Nat),.int .u32 (m3:Nat)],.agg #[.int .u32 (n0:Nat),.int .u32 (n1:Nat),.int .u32 (n2:Nat),.int .u32 (n3:Nat)],.agg #[.int .u8 (bt0 n0:Nat),.int .u8 (bt1 n0:Nat),.int .u8 (bt2 n0:Nat),.int .u8 (bt3 n0:Nat),.int .u8 (bt0 n1:Nat),.int .u8 (bt1 n1:Nat),.int .u8 (bt2 n1:Nat),.int .u8 (bt3 n1:Nat),.int .u8 (bt0 n2:Nat),.int .u8 (bt1 n2:Nat),.int .u8 (bt2 n2:Nat),.int .u8 (bt3 n2:Nat),.int .u8 (bt0 n3:Nat),.int .u8 (bt1 n3:Nat),.int .u8 (bt2 n3:Nat),.int .u8 (bt3 n3:Nat)]],[]⟩ (u5.setCells C 0 [.int .u8 (bt0 n0:Nat),.int .u8 (bt1 n0:Nat),.int .u8 (bt2 n0:Nat),.int .u8 (bt3 n0:Nat),.int .u8 (bt0 n1:Nat),.int .u8 (bt1 n1:Nat),.int .u8 (bt2 n1:Nat),.int .u8 (bt3 n1:Nat),.int .u8 (bt0 n2:Nat),.int .u8 (bt1 n2:Nat),.int .u8 (bt2 n2:Nat),.int .u8 (bt3 n2:Nat),.int .u8 (bt0 n3:Nat),.int .u8 (bt1 n3:Nat),.int .u8 (bt2 n3:Nat),.int .u8 (bt3 n3:Nat)])) :
  (Code.region 7 #[{ dst:=some 85,op:=Op.move (Operand.tmp 0),type:=175,pos:="cipher.go:130",after:=#[],guard:=none },{ dst:=some 86,op:=Op.move (Operand.tmp 0),type:=175,pos:="cipher.go:130",after:=#[],guard:=none },{ dst:=some 87,op:=Op.indexAddr 177 (Operand.tmp 5) (Operand.const (Value.int IntKind.i64 0)),type:=0,pos:="cipher.go:130",after:=#[],guard:=none },{ dst:=some 88,op:=Op.load 116 (Operand.tmp 87),type:=116,pos:="cipher.go:130",after:=#[{ on:=2,ground:=Ground.data }],guard:=none },{ dst:=some 89,op:=Op.indexAddr 177 (Operand.tmp 5) (Operand.const (Value.int IntKind.i64 3)),type:=0,pos:="cipher.go:130",after:=#[],guard:=none },{ dst:=some 90,op:=Op.load 116 (Operand.tmp 89),type:=116,pos:="cipher.go:130",after:=#[{ on:=4,ground:=Ground.data }],guard:=none },{ dst:=some 91,op:=Op.indexAddr 177 (Operand.tmp 5) (Operand.const (Value.int IntKind.i64 2)),type:=0,pos:="cipher.go:130",after:=#[],guard:=none },{ dst:=some 92,op:=Op.load 116 (Operand.tmp 91),type:=116,pos:="cipher.go:130",after:=#[{ on:=6,ground:=Ground.data }],guard:=none },{ dst:=some 93,op:=Op.indexAddr 177 (Operand.tmp 5) (Operand.const (Value.int IntKind.i64 1)),type:=0,pos:="cipher.go:130",after:=#[],guard:=none },{ dst:=some 94,op:=Op.load 116 (Operand.tmp 93),type:=116,pos:="cipher.go:130",after:=#[{ on:=8,ground:=Ground.data }],guard:=none },{ dst:=some 95,op:=Op.call { callee:=Callee.value (Operand.func 265),args:=#[Operand.tmp 86,Operand.tmp 88,Operand.tmp 90,Operand.tmp 92,Operand.tmp 94],argTypes:=#[175,116,116,116,116] },type:=116,pos:="cipher.go:131",after:=#[{ on:=1,ground:=Ground.data },{ on:=3,ground:=Ground.data },{ on:=5,ground:=Ground.data },{ on:=7,ground:=Ground.data },{ on:=9,ground:=Ground.data }],guard:=none },{ dst:=some 96,op:=Op.move (Operand.tmp 0),type:=175,pos:="cipher.go:130",after:=#[],guard:=none },{ dst:=some 97,op:=Op.indexAddr 177 (Operand.tmp 5) (Operand.const (Value.int IntKind.i64 1)),type:=0,pos:="cipher.go:130",after:=#[],guard:=none },{ dst:=some 98,op:=Op.load 116 (Operand.tmp 97),type:=116,pos:="cipher.go:130",after:=#[{ on:=12,ground:=Ground.data }],guard:=none },{ dst:=some 99,op:=Op.indexAddr 177 (Operand.tmp 5) (Operand.const (Value.int IntKind.i64 0)),type:=0,pos:="cipher.go:130",after:=#[],guard:=none },{ dst:=some 100,op:=Op.load 116 (Operand.tmp 99),type:=116,pos:="cipher.go:130",after:=#[{ on:=14,ground:=Ground.data }],guard:=none },{ dst:=some 101,op:=Op.indexAddr 177 (Operand.tmp 5) (Operand.const (Value.int IntKind.i64 3)),type:=0,pos:="cipher.go:130",after:=#[],guard:=none },{ dst:=some 102,op:=Op.load 116 (Operand.tmp 101),type:=116,pos:="cipher.go:130",after:=#[{ on:=16,ground:=Ground.data }],guard:=none },{ dst:=some 103,op:=Op.indexAddr 177 (Operand.tmp 5) (Operand.const (Value.int IntKind.i64 2)),type:=0,pos:="cipher.go:130",after:=#[],guard:=none },{ dst:=some 104,op:=Op.load 116 (Operand.tmp 103),type:=116,pos:="cipher.go:130",after:=#[{ on:=18,ground:=Ground.data }],guard:=none },{ dst:=some 105,op:=Op.call { callee:=Callee.value (Operand.func 265),args:=#[Operand.tmp 96,Operand.tmp 98,Operand.tmp 100,Operand.tmp 102,Operand.tmp 104],argTypes:=#[175,116,116,116,116] },type:=116,pos:="cipher.go:132",after:=#[{ on:=11,ground:=Ground.data },{ on:=13,ground:=Ground.data },{ on:=15,ground:=Ground.data },{ on:=17,ground:=Ground.data },{ on:=19,ground:=Ground.data },{ on:=10,ground:=Ground.chain }],guard:=none },{ dst:=some 106,op:=Op.move (Operand.tmp 0),type:=175,pos:="cipher.go:130",after:=#[],guard:=none },{ dst:=some 107,op:=Op.indexAddr 177 (Operand.tmp 5) (Operand.const (Value.int IntKind.i64 2)),type:=0,pos:="cipher.go:130",after:=#[],guard:=none },{ dst:=some 108,op:=Op.load 116 (Operand.tmp 107),type:=116,pos:="cipher.go:130",after:=#[{ on:=22,ground:=Ground.data }],guard:=none },{ dst:=some 109,op:=Op.indexAddr 177 (Operand.tmp 5) (Operand.const (Value.int IntKind.i64 1)),type:=0,pos:="cipher.go:130",after:=#[],guard:=none },{ dst:=some 110,op:=Op.load 116 (Operand.tmp 109),type:=116,pos:="cipher.go:130",after:=#[{ on:=24,ground:=Ground.data }],guard:=none },{ dst:=some 111,op:=Op.indexAddr 177 (Operand.tmp 5) (Operand.const (Value.int IntKind.i64 0)),type:=0,pos:="cipher.go:130",after:=#[],guard:=none },{ dst:=some 112,op:=Op.load 116 (Operand.tmp 111),type:=116,pos:="cipher.go:130",after:=#[{ on:=26,ground:=Ground.data }],guard:=none },{ dst:=some 113,op:=Op.indexAddr 177 (Operand.tmp 5) (Operand.const (Value.int IntKind.i64 3)),type:=0,pos:="cipher.go:130",after:=#[],guard:=none },{ dst:=some 114,op:=Op.load 116 (Operand.tmp 113),type:=116,pos:="cipher.go:130",after:=#[{ on:=28,ground:=Ground.data }],guard:=none },{ dst:=some 115,op:=Op.call { callee:=Callee.value (Operand.func 265),args:=#[Operand.tmp 106,Operand.tmp 108,Operand.tmp 110,Operand.tmp 112,Operand.tmp 114],argTypes:=#[175,116,116,116,116] },type:=116,pos:="cipher.go:133",after:=#[{ on:=21,ground:=Ground.data },{ on:=23,ground:=Ground.data },{ on:=25,ground:=Ground.data },{ on:=27,ground:=Ground.data },{ on:=29,ground:=Ground.data },{ on:=20,ground:=Ground.chain }],guard:=none },{ dst:=some 116,op:=Op.move (Operand.tmp 0),type:=175,pos:="cipher.go:130",after:=#[],guard:=none },{ dst:=some 117,op:=Op.indexAddr 177 (Operand.tmp 5) (Operand.const (Value.int IntKind.i64 3)),type:=0,pos:="cipher.go:130",after:=#[],guard:=none },{ dst:=some 118,op:=Op.load 116 (Operand.tmp 117),type:=116,pos:="cipher.go:130",after:=#[{ on:=32,ground:=Ground.data }],guard:=none },{ dst:=some 119,op:=Op.indexAddr 177 (Operand.tmp 5) (Operand.const (Value.int IntKind.i64 2)),type:=0,pos:="cipher.go:130",after:=#[],guard:=none },{ dst:=some 120,op:=Op.load 116 (Operand.tmp 119),type:=116,pos:="cipher.go:130",after:=#[{ on:=34,ground:=Ground.data }],guard:=none },{ dst:=some 121,op:=Op.indexAddr 177 (Operand.tmp 5) (Operand.const (Value.int IntKind.i64 1)),type:=0,pos:="cipher.go:130",after:=#[],guard:=none },{ dst:=some 122,op:=Op.load 116 (Operand.tmp 121),type:=116,pos:="cipher.go:130",after:=#[{ on:=36,ground:=Ground.data }],guard:=none },{ dst:=some 123,op:=Op.indexAddr 177 (Operand.tmp 5) (Operand.const (Value.int IntKind.i64 0)),type:=0,pos:="cipher.go:130",after:=#[],guard:=none },{ dst:=some 124,op:=Op.load 116 (Operand.tmp 123),type:=116,pos:="cipher.go:130",after:=#[{ on:=38,ground:=Ground.data }],guard:=none },{ dst:=some 125,op:=Op.call { callee:=Callee.value (Operand.func 265),args:=#[Operand.tmp 116,Operand.tmp 118,Operand.tmp 120,Operand.tmp 122,Operand.tmp 124],argTypes:=#[175,116,116,116,116] },type:=116,pos:="cipher.go:134",after:=#[{ on:=31,ground:=Ground.data },{ on:=33,ground:=Ground.data },{ on:=35,ground:=Ground.data },{ on:=37,ground:=Ground.data },{ on:=39,ground:=Ground.data },{ on:=30,ground:=Ground.chain }],guard:=none },{ dst:=some 126,op:=Op.build 177 #[(0,Operand.tmp 95),(1,Operand.tmp 105),(2,Operand.tmp 115),(3,Operand.tmp 125)],type:=177,pos:="cipher.go:130",after:=#[{ on:=10,ground:=Ground.data },{ on:=20,ground:=Ground.data },{ on:=30,ground:=Ground.data },{ on:=40,ground:=Ground.data }],guard:=none },{ dst:=some 127,op:=Op.call { callee:=Callee.value (Operand.func 86),args:=#[Operand.tmp 85,Operand.tmp 126,Operand.const (Value.int IntKind.i64 0)],argTypes:=#[175,177,3] },type:=177,pos:="cipher.go:130",after:=#[{ on:=0,ground:=Ground.data },{ on:=41,ground:=Ground.data },{ on:=40,ground:=Ground.chain }],guard:=none },{ dst:=some 128,op:=Op.call { callee:=Callee.value (Operand.func 89),args:=#[Operand.tmp 127],argTypes:=#[177] },type:=27,pos:="cipher.go:130",after:=#[{ on:=42,ground:=Ground.data },{ on:=42,ground:=Ground.chain }],guard:=none },{ dst:=none,op:=Op.store 27 (Operand.tmp 4) (Operand.tmp 128),type:=0,pos:="cipher.go:130",after:=#[{ on:=43,ground:=Ground.data },{ on:=43,ground:=Ground.chain },{ on:=0,ground:=Ground.phase },{ on:=1,ground:=Ground.phase },{ on:=2,ground:=Ground.phase },{ on:=3,ground:=Ground.phase },{ on:=4,ground:=Ground.phase },{ on:=5,ground:=Ground.phase },{ on:=6,ground:=Ground.phase },{ on:=7,ground:=Ground.phase },{ on:=8,ground:=Ground.phase },{ on:=9,ground:=Ground.phase },{ on:=10,ground:=Ground.phase },{ on:=11,ground:=Ground.phase },{ on:=12,ground:=Ground.phase },{ on:=13,ground:=Ground.phase },{ on:=14,ground:=Ground.phase },{ on:=15,ground:=Ground.phase },{ on:=16,ground:=Ground.phase },{ on:=17,ground:=Ground.phase },{ on:=18,ground:=Ground.phase },{ on:=19,ground:=Ground.phase },{ on:=20,ground:=Ground.phase },{ on:=21,ground:=Ground.phase },{ on:=22,ground:=Ground.phase },{ on:=23,ground:=Ground.phase },{ on:=24,ground:=Ground.phase },{ on:=25,ground:=Ground.phase },{ on:=26,ground:=Ground.phase },{ on:=27,ground:=Ground.phase },{ on:=28,ground:=Ground.phase },{ on:=29,ground:=Ground.phase },{ on:=30,ground:=Ground.phase },{ on:=31,ground:=Ground.phase },{ on:=32,ground:=Ground.phase },{ on:=33,ground:=Ground.phase },{ on:=34,ground:=Ground.phase },{ on:=35,ground:=Ground.phase },{ on:=36,ground:=Ground.phase },{ on:=37,ground:=Ground.phase },{ on:=38,ground:=Ground.phase },{ on:=39,ground:=Ground.phase },{ on:=40,ground:=Ground.phase },{ on:=41,ground:=Ground.phase },{ on:=42,ground:=Ground.phase },{ on:=43,ground:=Ground.phase }],guard:=none }] true).wp Tryz.prog Q ⟨#[.pointer (some ⟨g,o,none⟩),s1,s2,s3,.pointer (some ⟨C,0,none⟩),.pointer (some ⟨A,0,none⟩),s6,s7,s8,s9,s10,s11,s12,s13,s14,s15,s16,s17,s18,s19,s20,s21,s22,s23,s24,s25,s26,s27,s28,s29,s30,s31,s32,s33,s34,s35,s36,s37,s38,s39,s40,s41,s42,s43,s44,s45,s46,s47,s48,s49,s50,s51,s52,s53,s54,s55,s56,s57,s58,s59,s60,s61,s62,s63,s64,s65,s66,s67,s68,s69,s70,s71,s72,s73,s74,s75,s76,s77,s78,s79,s80,s81,s82,s83,s84,s85,s86,s87,s88,s89,s90,s91,s92,s93,s94,s95,s96,s97,s98,s99,s100,s101,s102,s103,s104,s105,s106,s107,s108,s109,s110,s111,s112,s113,s114,s115,s116,s117,s118,s119,s120,s121,s122,s123,s124,s125,s126,s127,s128],[]⟩ wr:=by
 have hS0:Below (A+1) wr wr.drew:=(Below.refl _ _).drew
 refine wp_region_noPanic ?_
 refine Z3 (fun u=>Below (A+1) wr u) 42 (by kernel_rfl) (by decide) (by decide +kernel) (by decide +kernel) (by decide +kernel) (fun inv=>?_)
 refine tT 0 85 (.pointer (some ⟨g,o,none⟩)) inv rfl rfl (by decide +kernel) (hS0) (Or.inl ⟨by rfl,fun w' hS'=>by go_simp⟩) (fun inv=>?_)
 simp only[pU]
 refine tT 1 86 (.pointer (some ⟨g,o,none⟩)) inv rfl rfl (by decide +kernel) (hS0) (Or.inl ⟨by rfl,fun w' hS'=>by go_simp⟩) (fun inv=>?_)
 simp only[pU]
 refine tT 2 87 (.pointer (some ⟨A,0,none⟩)) inv rfl rfl (by decide +kernel) (hS0) (Or.inl ⟨by rfl,fun w' hS'=>by go_simp⟩) (fun inv=>?_)
 simp only[pU]
 refine tT 3 88 (.int .u32 (x0:Nat)) inv rfl rfl (by decide +kernel) (hS0) (Or.inl ⟨by rfl,fun w' hS'=>by have q:=g0.out w' hS';go_simp⟩) (fun inv=>?_)
 simp only[pU]
 refine tT 4 89 (.pointer (some ⟨A,3,none⟩)) inv rfl rfl (by decide +kernel) (hS0) (Or.inl ⟨by rfl,fun w' hS'=>by go_simp⟩) (fun inv=>?_)
 simp only[pU]
 refine tT 5 90 (.int .u32 (x3:Nat)) inv rfl rfl (by decide +kernel) (hS0) (Or.inl ⟨by rfl,fun w' hS'=>by have q:=g3.out w' hS';go_simp⟩) (fun inv=>?_)
 simp only[pU]
 refine tT 6 91 (.pointer (some ⟨A,2,none⟩)) inv rfl rfl (by decide +kernel) (hS0) (Or.inl ⟨by rfl,fun w' hS'=>by go_simp⟩) (fun inv=>?_)
 simp only[pU]
 refine tT 7 92 (.int .u32 (x2:Nat)) inv rfl rfl (by decide +kernel) (hS0) (Or.inl ⟨by rfl,fun w' hS'=>by have q:=g2.out w' hS';go_simp⟩) (fun inv=>?_)
 simp only[pU]
 refine tT 8 93 (.pointer (some ⟨A,1,none⟩)) inv rfl rfl (by decide +kernel) (hS0) (Or.inl ⟨by rfl,fun w' hS'=>by go_simp⟩) (fun inv=>?_)
 simp only[pU]
 refine tT 9 94 (.int .u32 (x1:Nat)) inv rfl rfl (by decide +kernel) (hS0) (Or.inl ⟨by rfl,fun w' hS'=>by have q:=g1.out w' hS';go_simp⟩) (fun inv=>?_)
 simp only[pU]
 refine tT 11 96 (.pointer (some ⟨g,o,none⟩)) inv rfl rfl (by decide +kernel) (hS0) (Or.inl ⟨by rfl,fun w' hS'=>by go_simp⟩) (fun inv=>?_)
 simp only[pU]
 refine tT 12 97 (.pointer (some ⟨A,1,none⟩)) inv rfl rfl (by decide +kernel) (hS0) (Or.inl ⟨by rfl,fun w' hS'=>by go_simp⟩) (fun inv=>?_)
 simp only[pU]
 refine tT 13 98 (.int .u32 (x1:Nat)) inv rfl rfl (by decide +kernel) (hS0) (Or.inl ⟨by rfl,fun w' hS'=>by have q:=g1.out w' hS';go_simp⟩) (fun inv=>?_)
 simp only[pU]
 refine tT 14 99 (.pointer (some ⟨A,0,none⟩)) inv rfl rfl (by decide +kernel) (hS0) (Or.inl ⟨by rfl,fun w' hS'=>by go_simp⟩) (fun inv=>?_)
 simp only[pU]
 refine tT 15 100 (.int .u32 (x0:Nat)) inv rfl rfl (by decide +kernel) (hS0) (Or.inl ⟨by rfl,fun w' hS'=>by have q:=g0.out w' hS';go_simp⟩) (fun inv=>?_)
 simp only[pU]
 refine tT 16 101 (.pointer (some ⟨A,3,none⟩)) inv rfl rfl (by decide +kernel) (hS0) (Or.inl ⟨by rfl,fun w' hS'=>by go_simp⟩) (fun inv=>?_)
 simp only[pU]
 refine tT 17 102 (.int .u32 (x3:Nat)) inv rfl rfl (by decide +kernel) (hS0) (Or.inl ⟨by rfl,fun w' hS'=>by have q:=g3.out w' hS';go_simp⟩) (fun inv=>?_)
 simp only[pU]
 refine tT 18 103 (.pointer (some ⟨A,2,none⟩)) inv rfl rfl (by decide +kernel) (hS0) (Or.inl ⟨by rfl,fun w' hS'=>by go_simp⟩) (fun inv=>?_)
 simp only[pU]
 refine tT 19 104 (.int .u32 (x2:Nat)) inv rfl rfl (by decide +kernel) (hS0) (Or.inl ⟨by rfl,fun w' hS'=>by have q:=g2.out w' hS';go_simp⟩) (fun inv=>?_)
 simp only[pU]
 refine tT 21 106 (.pointer (some ⟨g,o,none⟩)) inv rfl rfl (by decide +kernel) (hS0) (Or.inl ⟨by rfl,fun w' hS'=>by go_simp⟩) (fun inv=>?_)
 simp only[pU]
 refine tT 22 107 (.pointer (some ⟨A,2,none⟩)) inv rfl rfl (by decide +kernel) (hS0) (Or.inl ⟨by rfl,fun w' hS'=>by go_simp⟩) (fun inv=>?_)
 simp only[pU]
 refine tT 23 108 (.int .u32 (x2:Nat)) inv rfl rfl (by decide +kernel) (hS0) (Or.inl ⟨by rfl,fun w' hS'=>by have q:=g2.out w' hS';go_simp⟩) (fun inv=>?_)
 simp only[pU]
 refine tT 24 109 (.pointer (some ⟨A,1,none⟩)) inv rfl rfl (by decide +kernel) (hS0) (Or.inl ⟨by rfl,fun w' hS'=>by go_simp⟩) (fun inv=>?_)
 simp only[pU]
 refine tT 25 110 (.int .u32 (x1:Nat)) inv rfl rfl (by decide +kernel) (hS0) (Or.inl ⟨by rfl,fun w' hS'=>by have q:=g1.out w' hS';go_simp⟩) (fun inv=>?_)
 simp only[pU]
 refine tT 26 111 (.pointer (some ⟨A,0,none⟩)) inv rfl rfl (by decide +kernel) (hS0) (Or.inl ⟨by rfl,fun w' hS'=>by go_simp⟩) (fun inv=>?_)
 simp only[pU]
 refine tT 27 112 (.int .u32 (x0:Nat)) inv rfl rfl (by decide +kernel) (hS0) (Or.inl ⟨by rfl,fun w' hS'=>by have q:=g0.out w' hS';go_simp⟩) (fun inv=>?_)
 simp only[pU]
 refine tT 28 113 (.pointer (some ⟨A,3,none⟩)) inv rfl rfl (by decide +kernel) (hS0) (Or.inl ⟨by rfl,fun w' hS'=>by go_simp⟩) (fun inv=>?_)
 simp only[pU]
 refine tT 29 114 (.int .u32 (x3:Nat)) inv rfl rfl (by decide +kernel) (hS0) (Or.inl ⟨by rfl,fun w' hS'=>by have q:=g3.out w' hS';go_simp⟩) (fun inv=>?_)
 simp only[pU]
 refine tT 31 116 (.pointer (some ⟨g,o,none⟩)) inv rfl rfl (by decide +kernel) (hS0) (Or.inl ⟨by rfl,fun w' hS'=>by go_simp⟩) (fun inv=>?_)
 simp only[pU]
 refine tT 32 117 (.pointer (some ⟨A,3,none⟩)) inv rfl rfl (by decide +kernel) (hS0) (Or.inl ⟨by rfl,fun w' hS'=>by go_simp⟩) (fun inv=>?_)
 simp only[pU]
 refine tT 33 118 (.int .u32 (x3:Nat)) inv rfl rfl (by decide +kernel) (hS0) (Or.inl ⟨by rfl,fun w' hS'=>by have q:=g3.out w' hS';go_simp⟩) (fun inv=>?_)
 simp only[pU]
 refine tT 34 119 (.pointer (some ⟨A,2,none⟩)) inv rfl rfl (by decide +kernel) (hS0) (Or.inl ⟨by rfl,fun w' hS'=>by go_simp⟩) (fun inv=>?_)
 simp only[pU]
 refine tT 35 120 (.int .u32 (x2:Nat)) inv rfl rfl (by decide +kernel) (hS0) (Or.inl ⟨by rfl,fun w' hS'=>by have q:=g2.out w' hS';go_simp⟩) (fun inv=>?_)
 simp only[pU]
 refine tT 36 121 (.pointer (some ⟨A,1,none⟩)) inv rfl rfl (by decide +kernel) (hS0) (Or.inl ⟨by rfl,fun w' hS'=>by go_simp⟩) (fun inv=>?_)
 simp only[pU]
 refine tT 37 122 (.int .u32 (x1:Nat)) inv rfl rfl (by decide +kernel) (hS0) (Or.inl ⟨by rfl,fun w' hS'=>by have q:=g1.out w' hS';go_simp⟩) (fun inv=>?_)
 simp only[pU]
 refine tT 38 123 (.pointer (some ⟨A,0,none⟩)) inv rfl rfl (by decide +kernel) (hS0) (Or.inl ⟨by rfl,fun w' hS'=>by go_simp⟩) (fun inv=>?_)
 simp only[pU]
 refine tT 39 124 (.int .u32 (x0:Nat)) inv rfl rfl (by decide +kernel) (hS0) (Or.inl ⟨by rfl,fun w' hS'=>by have q:=g0.out w' hS';go_simp⟩) (fun inv=>?_)
 simp only[pU]
 refine Zo (i:=10) inv (by decide +kernel) (by decide) rfl (fun K hK=>?_)
 go_simp
 refine (k0.out _ hS0).mono ?_
 rintro e1 u0 ⟨rfl,hu0⟩
 go_wp2_with fail
 refine hK.out _ _ hu0 (fun inv'=>?_)
 clear hK K inv;have inv:=inv';clear inv'
 try simp only[pU]
 refine Zo (i:=20) inv (by decide +kernel) (by decide) rfl (fun K hK=>?_)
 go_simp
 refine (k1.out _ hu0).mono ?_
 rintro e1 u1 ⟨rfl,hu1⟩
 go_wp2_with fail
 refine hK.out _ _ hu1 (fun inv'=>?_)
 clear hK K inv;have inv:=inv';clear inv'
 try simp only[pU]
 refine Zo (i:=30) inv (by decide +kernel) (by decide) rfl (fun K hK=>?_)
 go_simp
 refine (k2.out _ hu1).mono ?_
 rintro e1 u2 ⟨rfl,hu2⟩
 go_wp2_with fail
 refine hK.out _ _ hu2 (fun inv'=>?_)
 clear hK K inv;have inv:=inv';clear inv'
 try simp only[pU]
 refine Zo (i:=40) inv (by decide +kernel) (by decide) rfl (fun K hK=>?_)
 go_simp
 refine (k3.out _ hu2).mono ?_
 rintro e1 u3 ⟨rfl,hu3⟩
 go_wp2_with fail
 refine hK.out _ _ hu3 (fun inv'=>?_)
 clear hK K inv;have inv:=inv';clear inv'
 try simp only[pU]
 refine tT 41 126 (.agg #[.int .u32 (m0:Nat),.int .u32 (m1:Nat),.int .u32 (m2:Nat),.int .u32 (m3:Nat)]) inv rfl rfl (by decide +kernel) (hu3) (Yx (by rfl) 177 #[(0,.tmp 95),(1,.tmp 105),(2,.tmp 115),(3,.tmp 125)] rfl _ (by simp only[List.map_toArray,List.map_cons,List.map_nil];kernel_rfl)) (fun inv=>?_)
 simp only[pU]
 refine Zn (i:=42) (by decide +kernel) (by decide) rfl (fun K hK=>?_)
 go_simp
 refine (ka.out _ hu3).mono ?_
 rintro e1 u4 ⟨rfl,hu4⟩
 go_wp2_with fail
 refine hK.out _ _ ?_
 clear hK K
 try simp only[pU]
 refine Zn (i:=43) (by decide +kernel) (by decide) rfl (fun K hK=>?_)
 go_simp
 refine (kt.out _).mono ?_
 rintro e1 u5 ⟨rfl,hu5⟩
 go_wp2_with fail
 refine hK.out _ _ ?_
 clear hK K
 try simp only[pU]
 refine Zn (i:=44) (by decide +kernel) (by decide) rfl (fun K hK=>?_)
 rw[if_pos (by rfl)]
 refine wp_store_mid 27 (.tmp 4) (.tmp 128) rfl C 0 #[.int .u8 (bt0 n0:Nat),.int .u8 (bt1 n0:Nat),.int .u8 (bt2 n0:Nat),.int .u8 (bt3 n0:Nat),.int .u8 (bt0 n1:Nat),.int .u8 (bt1 n1:Nat),.int .u8 (bt2 n1:Nat),.int .u8 (bt3 n1:Nat),.int .u8 (bt0 n2:Nat),.int .u8 (bt1 n2:Nat),.int .u8 (bt2 n2:Nat),.int .u8 (bt3 n2:Nat),.int .u8 (bt0 n3:Nat),.int .u8 (bt1 n3:Nat),.int .u8 (bt2 n3:Nat),.int .u8 (bt3 n3:Nat)] rfl rfl (hth u4 u5 hu4 hu5) (Qz) (by kernel_rfl) ?_
 refine hK.out _ _ ?_
 clear hK K
 try simp only[pU]
 refine Xj (by decide +kernel) ?_ _
 refine NoPanic.normal ?_
 exact HQ u4 u5 hu4 hu5
end Go.Proofs.YtehlppaidgkpaaaGreatDoor
