import Derived.Test.YtgmfiljjogdccaaDoorPart01
import Derived.Test.YtgmfiljjogdccaaDoorPart03
import Derived.Deep.CutRange
import Derived.Test.YtgmfiljjogdccaaDoorPart00
namespace Go.Proofs.YtgmfiljjogdccaaDoor
open Go.RowKit
set_option linter.unusedVariables false
set_option linter.unusedSimpArgs false
set_option maxHeartbeats 6400000 in
set_option maxRecDepth 100000 in
theorem dec_r7 {Q : Exit → Act → World → Prop} (s1 s2 s3 s6 s7 s8 s9 s10 s11 s12 s13 s14 s15 s16 s17 s18 s19 s20 s21 s22 s23 s24 s25 s26 s27 s28 s29 s30 s31 s32 s33 s34 s35 s36 s37 s38 s39 s40 s41 s42 s43 s44 s45 s46 s47 s48 s49 s50 s51 s52 s53 s54 s55 s56 s57 s58 s59 s60 s61 s62 s63 s64 s65 s66 s67 s68 s69 s70 s71 s72 s73 s74 s75 s76 s77 s78 s79 s80 s81 s82 s83 s84 s85 s86 s87 s88 s89 s90 s91 s92 s93 s94 s95 s96 s97 s98 s99 s100 s101 s102 s103 s104 s105 s106 s107 s108 s109 s110 s111 s112 s113 s114 s115 s116 s117 s118 s119 s120 s121 s122 s123 s124 s125 s126 s127 s128 : Value) (g o A C x0 x1 x2 x3 m0 m1 m2 m3 n0 n1 n2 n3 : Nat) (wr : World)
    (k0 : Hid (∀ u, Below (A + 1) wr u → Calls Tryd.prog 68 #[.pointer (some ⟨g, o, none⟩), .int .u32 (x0 : Nat), .int .u32 (x3 : Nat), .int .u32 (x2 : Nat), .int .u32 (x1 : Nat)] u fun e u' => e = .returned (.int .u32 (m0 : Nat)) ∧ Below (A + 1) wr u'))
    (k1 : Hid (∀ u, Below (A + 1) wr u → Calls Tryd.prog 68 #[.pointer (some ⟨g, o, none⟩), .int .u32 (x1 : Nat), .int .u32 (x0 : Nat), .int .u32 (x3 : Nat), .int .u32 (x2 : Nat)] u fun e u' => e = .returned (.int .u32 (m1 : Nat)) ∧ Below (A + 1) wr u'))
    (k2 : Hid (∀ u, Below (A + 1) wr u → Calls Tryd.prog 68 #[.pointer (some ⟨g, o, none⟩), .int .u32 (x2 : Nat), .int .u32 (x1 : Nat), .int .u32 (x0 : Nat), .int .u32 (x3 : Nat)] u fun e u' => e = .returned (.int .u32 (m2 : Nat)) ∧ Below (A + 1) wr u'))
    (k3 : Hid (∀ u, Below (A + 1) wr u → Calls Tryd.prog 68 #[.pointer (some ⟨g, o, none⟩), .int .u32 (x3 : Nat), .int .u32 (x2 : Nat), .int .u32 (x1 : Nat), .int .u32 (x0 : Nat)] u fun e u' => e = .returned (.int .u32 (m3 : Nat)) ∧ Below (A + 1) wr u'))
    (ka : Hid (∀ u, Below (A + 1) wr u → Calls Tryd.prog 63 #[.pointer (some ⟨g, o, none⟩), .agg #[.int .u32 (m0 : Nat), .int .u32 (m1 : Nat), .int .u32 (m2 : Nat), .int .u32 (m3 : Nat)], .int .i64 0] u fun e u' => e = .returned (.agg #[.int .u32 (n0 : Nat), .int .u32 (n1 : Nat), .int .u32 (n2 : Nat), .int .u32 (n3 : Nat)]) ∧ Below (A + 1) wr u'))
    (kt : Hid (∀ u, Calls Tryd.prog 66 #[.agg #[.int .u32 (n0 : Nat), .int .u32 (n1 : Nat), .int .u32 (n2 : Nat), .int .u32 (n3 : Nat)]] u fun e u' => e = .returned (.agg #[.int .u8 (bt0 n0 : Nat), .int .u8 (bt1 n0 : Nat), .int .u8 (bt2 n0 : Nat), .int .u8 (bt3 n0 : Nat), .int .u8 (bt0 n1 : Nat), .int .u8 (bt1 n1 : Nat), .int .u8 (bt2 n1 : Nat), .int .u8 (bt3 n1 : Nat), .int .u8 (bt0 n2 : Nat), .int .u8 (bt1 n2 : Nat), .int .u8 (bt2 n2 : Nat), .int .u8 (bt3 n2 : Nat), .int .u8 (bt0 n3 : Nat), .int .u8 (bt1 n3 : Nat), .int .u8 (bt2 n3 : Nat), .int .u8 (bt3 n3 : Nat)]) ∧ Below u.heap.size u u'))
    (g0 : Hid (∀ u, Below (A + 1) wr u → u.cell? ⟨A, 0, none⟩ = some (.int .u32 (x0 : Nat))))
    (g1 : Hid (∀ u, Below (A + 1) wr u → u.cell? ⟨A, 1, none⟩ = some (.int .u32 (x1 : Nat))))
    (g2 : Hid (∀ u, Below (A + 1) wr u → u.cell? ⟨A, 2, none⟩ = some (.int .u32 (x2 : Nat))))
    (g3 : Hid (∀ u, Below (A + 1) wr u → u.cell? ⟨A, 3, none⟩ = some (.int .u32 (x3 : Nat))))
    (hth : ∀ u4 u5, Below (A + 1) wr u4 → Below u4.heap.size u4 u5 → u5.there C 0 16)
    (HQ : ∀ u4 u5, Below (A + 1) wr u4 → Below u4.heap.size u4 u5 → Q .normal ⟨#[.pointer (some ⟨g, o, none⟩), s1, s2, s3, .pointer (some ⟨C, 0, none⟩), .pointer (some ⟨A, 0, none⟩), s6, s7, s8, s9, s10, s11, s12, s13, s14, s15, s16, s17, s18, s19, s20, s21, s22, s23, s24, s25, s26, s27, s28, s29, s30, s31, s32, s33, s34, s35, s36, s37, s38, s39, s40, s41, s42, s43, s44, s45, s46, s47, s48, s49, s50, s51, s52, s53, s54, s55, s56, s57, s58, s59, s60, s61, s62, s63, s64, s65, s66, s67, s68, s69, s70, s71, s72, s73, s74, s75, s76, s77, s78, s79, s80, s81, s82, s83, s84, .pointer (some ⟨g, o, none⟩), .pointer (some ⟨g, o, none⟩), .pointer (some ⟨A, 0, none⟩), .int .u32 (x0 : Nat), .pointer (some ⟨A, 3, none⟩), .int .u32 (x3 : Nat), .pointer (some ⟨A, 2, none⟩), .int .u32 (x2 : Nat), .pointer (some ⟨A, 1, none⟩), .int .u32 (x1 : Nat), .int .u32 (m0 : Nat), .pointer (some ⟨g, o, none⟩), .pointer (some ⟨A, 1, none⟩), .int .u32 (x1 : Nat), .pointer (some ⟨A, 0, none⟩), .int .u32 (x0 : Nat), .pointer (some ⟨A, 3, none⟩), .int .u32 (x3 : Nat), .pointer (some ⟨A, 2, none⟩), .int .u32 (x2 : Nat), .int .u32 (m1 : Nat), .pointer (some ⟨g, o, none⟩), .pointer (some ⟨A, 2, none⟩), .int .u32 (x2 : Nat), .pointer (some ⟨A, 1, none⟩), .int .u32 (x1 : Nat), .pointer (some ⟨A, 0, none⟩), .int .u32 (x0 : Nat), .pointer (some ⟨A, 3, none⟩), .int .u32 (x3 : Nat), .int .u32 (m2 : Nat), .pointer (some ⟨g, o, none⟩), .pointer (some ⟨A, 3, none⟩), .int .u32 (x3 : Nat), .pointer (some ⟨A, 2, none⟩), .int .u32 (x2 : Nat), .pointer (some ⟨A, 1, none⟩), .int .u32 (x1 : Nat), .pointer (some ⟨A, 0, none⟩), .int .u32 (x0 : Nat), .int .u32 (m3 : Nat), .agg #[.int .u32 (m0 : Nat), .int .u32 (m1 : Nat), .int .u32 (m2 : Nat), .int .u32 (m3 : Nat)], .agg #[.int .u32 (n0 : Nat), .int .u32 (n1 : Nat), .int .u32 (n2 : Nat), .int .u32 (n3 : Nat)], .agg #[.int .u8 (bt0 n0 : Nat), .int .u8 (bt1 n0 : Nat), .int .u8 (bt2 n0 : Nat), .int .u8 (bt3 n0 : Nat), .int .u8 (bt0 n1 : Nat), .int .u8 (bt1 n1 : Nat), .int .u8 (bt2 n1 : Nat), .int .u8 (bt3 n1 : Nat), .int .u8 (bt0 n2 : Nat), .int .u8 (bt1 n2 : Nat), .int .u8 (bt2 n2 : Nat), .int .u8 (bt3 n2 : Nat), .int .u8 (bt0 n3 : Nat), .int .u8 (bt1 n3 : Nat), .int .u8 (bt2 n3 : Nat), .int .u8 (bt3 n3 : Nat)]], []⟩ (u5.setCells C 0 [.int .u8 (bt0 n0 : Nat), .int .u8 (bt1 n0 : Nat), .int .u8 (bt2 n0 : Nat), .int .u8 (bt3 n0 : Nat), .int .u8 (bt0 n1 : Nat), .int .u8 (bt1 n1 : Nat), .int .u8 (bt2 n1 : Nat), .int .u8 (bt3 n1 : Nat), .int .u8 (bt0 n2 : Nat), .int .u8 (bt1 n2 : Nat), .int .u8 (bt2 n2 : Nat), .int .u8 (bt3 n2 : Nat), .int .u8 (bt0 n3 : Nat), .int .u8 (bt1 n3 : Nat), .int .u8 (bt2 n3 : Nat), .int .u8 (bt3 n3 : Nat)])) :
    (Code.region 7 #[{ dst := some 85, op := Op.move (Operand.tmp 0), type := 113, pos := "cipher.go:130", after := #[], guard := none }, { dst := some 86, op := Op.move (Operand.tmp 0), type := 113, pos := "cipher.go:130", after := #[], guard := none }, { dst := some 87, op := Op.indexAddr 115 (Operand.tmp 5) (Operand.const (Value.int IntKind.i64 0)), type := 0, pos := "cipher.go:130", after := #[], guard := none }, { dst := some 88, op := Op.load 50 (Operand.tmp 87), type := 50, pos := "cipher.go:130", after := #[{ on := 2, ground := Ground.data }], guard := none }, { dst := some 89, op := Op.indexAddr 115 (Operand.tmp 5) (Operand.const (Value.int IntKind.i64 3)), type := 0, pos := "cipher.go:130", after := #[], guard := none }, { dst := some 90, op := Op.load 50 (Operand.tmp 89), type := 50, pos := "cipher.go:130", after := #[{ on := 4, ground := Ground.data }], guard := none }, { dst := some 91, op := Op.indexAddr 115 (Operand.tmp 5) (Operand.const (Value.int IntKind.i64 2)), type := 0, pos := "cipher.go:130", after := #[], guard := none }, { dst := some 92, op := Op.load 50 (Operand.tmp 91), type := 50, pos := "cipher.go:130", after := #[{ on := 6, ground := Ground.data }], guard := none }, { dst := some 93, op := Op.indexAddr 115 (Operand.tmp 5) (Operand.const (Value.int IntKind.i64 1)), type := 0, pos := "cipher.go:130", after := #[], guard := none }, { dst := some 94, op := Op.load 50 (Operand.tmp 93), type := 50, pos := "cipher.go:130", after := #[{ on := 8, ground := Ground.data }], guard := none }, { dst := some 95, op := Op.call { callee := Callee.value (Operand.func 68), args := #[Operand.tmp 86, Operand.tmp 88, Operand.tmp 90, Operand.tmp 92, Operand.tmp 94], argTypes := #[113, 50, 50, 50, 50] }, type := 50, pos := "cipher.go:131", after := #[{ on := 1, ground := Ground.data }, { on := 3, ground := Ground.data }, { on := 5, ground := Ground.data }, { on := 7, ground := Ground.data }, { on := 9, ground := Ground.data }], guard := none }, { dst := some 96, op := Op.move (Operand.tmp 0), type := 113, pos := "cipher.go:130", after := #[], guard := none }, { dst := some 97, op := Op.indexAddr 115 (Operand.tmp 5) (Operand.const (Value.int IntKind.i64 1)), type := 0, pos := "cipher.go:130", after := #[], guard := none }, { dst := some 98, op := Op.load 50 (Operand.tmp 97), type := 50, pos := "cipher.go:130", after := #[{ on := 12, ground := Ground.data }], guard := none }, { dst := some 99, op := Op.indexAddr 115 (Operand.tmp 5) (Operand.const (Value.int IntKind.i64 0)), type := 0, pos := "cipher.go:130", after := #[], guard := none }, { dst := some 100, op := Op.load 50 (Operand.tmp 99), type := 50, pos := "cipher.go:130", after := #[{ on := 14, ground := Ground.data }], guard := none }, { dst := some 101, op := Op.indexAddr 115 (Operand.tmp 5) (Operand.const (Value.int IntKind.i64 3)), type := 0, pos := "cipher.go:130", after := #[], guard := none }, { dst := some 102, op := Op.load 50 (Operand.tmp 101), type := 50, pos := "cipher.go:130", after := #[{ on := 16, ground := Ground.data }], guard := none }, { dst := some 103, op := Op.indexAddr 115 (Operand.tmp 5) (Operand.const (Value.int IntKind.i64 2)), type := 0, pos := "cipher.go:130", after := #[], guard := none }, { dst := some 104, op := Op.load 50 (Operand.tmp 103), type := 50, pos := "cipher.go:130", after := #[{ on := 18, ground := Ground.data }], guard := none }, { dst := some 105, op := Op.call { callee := Callee.value (Operand.func 68), args := #[Operand.tmp 96, Operand.tmp 98, Operand.tmp 100, Operand.tmp 102, Operand.tmp 104], argTypes := #[113, 50, 50, 50, 50] }, type := 50, pos := "cipher.go:132", after := #[{ on := 11, ground := Ground.data }, { on := 13, ground := Ground.data }, { on := 15, ground := Ground.data }, { on := 17, ground := Ground.data }, { on := 19, ground := Ground.data }, { on := 10, ground := Ground.chain }], guard := none }, { dst := some 106, op := Op.move (Operand.tmp 0), type := 113, pos := "cipher.go:130", after := #[], guard := none }, { dst := some 107, op := Op.indexAddr 115 (Operand.tmp 5) (Operand.const (Value.int IntKind.i64 2)), type := 0, pos := "cipher.go:130", after := #[], guard := none }, { dst := some 108, op := Op.load 50 (Operand.tmp 107), type := 50, pos := "cipher.go:130", after := #[{ on := 22, ground := Ground.data }], guard := none }, { dst := some 109, op := Op.indexAddr 115 (Operand.tmp 5) (Operand.const (Value.int IntKind.i64 1)), type := 0, pos := "cipher.go:130", after := #[], guard := none }, { dst := some 110, op := Op.load 50 (Operand.tmp 109), type := 50, pos := "cipher.go:130", after := #[{ on := 24, ground := Ground.data }], guard := none }, { dst := some 111, op := Op.indexAddr 115 (Operand.tmp 5) (Operand.const (Value.int IntKind.i64 0)), type := 0, pos := "cipher.go:130", after := #[], guard := none }, { dst := some 112, op := Op.load 50 (Operand.tmp 111), type := 50, pos := "cipher.go:130", after := #[{ on := 26, ground := Ground.data }], guard := none }, { dst := some 113, op := Op.indexAddr 115 (Operand.tmp 5) (Operand.const (Value.int IntKind.i64 3)), type := 0, pos := "cipher.go:130", after := #[], guard := none }, { dst := some 114, op := Op.load 50 (Operand.tmp 113), type := 50, pos := "cipher.go:130", after := #[{ on := 28, ground := Ground.data }], guard := none }, { dst := some 115, op := Op.call { callee := Callee.value (Operand.func 68), args := #[Operand.tmp 106, Operand.tmp 108, Operand.tmp 110, Operand.tmp 112, Operand.tmp 114], argTypes := #[113, 50, 50, 50, 50] }, type := 50, pos := "cipher.go:133", after := #[{ on := 21, ground := Ground.data }, { on := 23, ground := Ground.data }, { on := 25, ground := Ground.data }, { on := 27, ground := Ground.data }, { on := 29, ground := Ground.data }, { on := 20, ground := Ground.chain }], guard := none }, { dst := some 116, op := Op.move (Operand.tmp 0), type := 113, pos := "cipher.go:130", after := #[], guard := none }, { dst := some 117, op := Op.indexAddr 115 (Operand.tmp 5) (Operand.const (Value.int IntKind.i64 3)), type := 0, pos := "cipher.go:130", after := #[], guard := none }, { dst := some 118, op := Op.load 50 (Operand.tmp 117), type := 50, pos := "cipher.go:130", after := #[{ on := 32, ground := Ground.data }], guard := none }, { dst := some 119, op := Op.indexAddr 115 (Operand.tmp 5) (Operand.const (Value.int IntKind.i64 2)), type := 0, pos := "cipher.go:130", after := #[], guard := none }, { dst := some 120, op := Op.load 50 (Operand.tmp 119), type := 50, pos := "cipher.go:130", after := #[{ on := 34, ground := Ground.data }], guard := none }, { dst := some 121, op := Op.indexAddr 115 (Operand.tmp 5) (Operand.const (Value.int IntKind.i64 1)), type := 0, pos := "cipher.go:130", after := #[], guard := none }, { dst := some 122, op := Op.load 50 (Operand.tmp 121), type := 50, pos := "cipher.go:130", after := #[{ on := 36, ground := Ground.data }], guard := none }, { dst := some 123, op := Op.indexAddr 115 (Operand.tmp 5) (Operand.const (Value.int IntKind.i64 0)), type := 0, pos := "cipher.go:130", after := #[], guard := none }, { dst := some 124, op := Op.load 50 (Operand.tmp 123), type := 50, pos := "cipher.go:130", after := #[{ on := 38, ground := Ground.data }], guard := none }, { dst := some 125, op := Op.call { callee := Callee.value (Operand.func 68), args := #[Operand.tmp 116, Operand.tmp 118, Operand.tmp 120, Operand.tmp 122, Operand.tmp 124], argTypes := #[113, 50, 50, 50, 50] }, type := 50, pos := "cipher.go:134", after := #[{ on := 31, ground := Ground.data }, { on := 33, ground := Ground.data }, { on := 35, ground := Ground.data }, { on := 37, ground := Ground.data }, { on := 39, ground := Ground.data }, { on := 30, ground := Ground.chain }], guard := none }, { dst := some 126, op := Op.build 115 #[(0, Operand.tmp 95), (1, Operand.tmp 105), (2, Operand.tmp 115), (3, Operand.tmp 125)], type := 115, pos := "cipher.go:130", after := #[{ on := 10, ground := Ground.data }, { on := 20, ground := Ground.data }, { on := 30, ground := Ground.data }, { on := 40, ground := Ground.data }], guard := none }, { dst := some 127, op := Op.call { callee := Callee.value (Operand.func 63), args := #[Operand.tmp 85, Operand.tmp 126, Operand.const (Value.int IntKind.i64 0)], argTypes := #[113, 115, 3] }, type := 115, pos := "cipher.go:130", after := #[{ on := 0, ground := Ground.data }, { on := 41, ground := Ground.data }, { on := 40, ground := Ground.chain }], guard := none }, { dst := some 128, op := Op.call { callee := Callee.value (Operand.func 66), args := #[Operand.tmp 127], argTypes := #[115] }, type := 42, pos := "cipher.go:130", after := #[{ on := 42, ground := Ground.data }, { on := 42, ground := Ground.chain }], guard := none }, { dst := none, op := Op.store 42 (Operand.tmp 4) (Operand.tmp 128), type := 0, pos := "cipher.go:130", after := #[{ on := 43, ground := Ground.data }, { on := 43, ground := Ground.chain }, { on := 0, ground := Ground.phase }, { on := 1, ground := Ground.phase }, { on := 2, ground := Ground.phase }, { on := 3, ground := Ground.phase }, { on := 4, ground := Ground.phase }, { on := 5, ground := Ground.phase }, { on := 6, ground := Ground.phase }, { on := 7, ground := Ground.phase }, { on := 8, ground := Ground.phase }, { on := 9, ground := Ground.phase }, { on := 10, ground := Ground.phase }, { on := 11, ground := Ground.phase }, { on := 12, ground := Ground.phase }, { on := 13, ground := Ground.phase }, { on := 14, ground := Ground.phase }, { on := 15, ground := Ground.phase }, { on := 16, ground := Ground.phase }, { on := 17, ground := Ground.phase }, { on := 18, ground := Ground.phase }, { on := 19, ground := Ground.phase }, { on := 20, ground := Ground.phase }, { on := 21, ground := Ground.phase }, { on := 22, ground := Ground.phase }, { on := 23, ground := Ground.phase }, { on := 24, ground := Ground.phase }, { on := 25, ground := Ground.phase }, { on := 26, ground := Ground.phase }, { on := 27, ground := Ground.phase }, { on := 28, ground := Ground.phase }, { on := 29, ground := Ground.phase }, { on := 30, ground := Ground.phase }, { on := 31, ground := Ground.phase }, { on := 32, ground := Ground.phase }, { on := 33, ground := Ground.phase }, { on := 34, ground := Ground.phase }, { on := 35, ground := Ground.phase }, { on := 36, ground := Ground.phase }, { on := 37, ground := Ground.phase }, { on := 38, ground := Ground.phase }, { on := 39, ground := Ground.phase }, { on := 40, ground := Ground.phase }, { on := 41, ground := Ground.phase }, { on := 42, ground := Ground.phase }, { on := 43, ground := Ground.phase }], guard := none }] true).wp Tryd.prog Q ⟨#[.pointer (some ⟨g, o, none⟩), s1, s2, s3, .pointer (some ⟨C, 0, none⟩), .pointer (some ⟨A, 0, none⟩), s6, s7, s8, s9, s10, s11, s12, s13, s14, s15, s16, s17, s18, s19, s20, s21, s22, s23, s24, s25, s26, s27, s28, s29, s30, s31, s32, s33, s34, s35, s36, s37, s38, s39, s40, s41, s42, s43, s44, s45, s46, s47, s48, s49, s50, s51, s52, s53, s54, s55, s56, s57, s58, s59, s60, s61, s62, s63, s64, s65, s66, s67, s68, s69, s70, s71, s72, s73, s74, s75, s76, s77, s78, s79, s80, s81, s82, s83, s84, s85, s86, s87, s88, s89, s90, s91, s92, s93, s94, s95, s96, s97, s98, s99, s100, s101, s102, s103, s104, s105, s106, s107, s108, s109, s110, s111, s112, s113, s114, s115, s116, s117, s118, s119, s120, s121, s122, s123, s124, s125, s126, s127, s128], []⟩ wr := by
  have hS0 : Below (A + 1) wr wr.drew := (Below.refl _ _).drew
  refine wp_region_noPanic ?_
  refine wp_region_till (fun u => Below (A + 1) wr u) 42 (by kernel_rfl) (by decide) (by decide +kernel) (by decide +kernel) (by decide +kernel) (fun inv => ?_)
  refine till_at 0 85 (.pointer (some ⟨g, o, none⟩)) inv rfl rfl (by decide) (by decide +kernel) (by decide +kernel) (fun _ _ _ h => h) (hS0) (Or.inl ⟨by rfl, fun w' hS' => by go_simp⟩) (fun inv' => ?_)
  clear inv; have inv := inv'; clear inv'
  simp only [List.setIfInBounds_toArray, List.set_cons_zero, List.set_cons_succ]
  refine till_at 1 86 (.pointer (some ⟨g, o, none⟩)) inv rfl rfl (by decide) (by decide +kernel) (by decide +kernel) (fun _ _ _ h => h) (hS0) (Or.inl ⟨by rfl, fun w' hS' => by go_simp⟩) (fun inv' => ?_)
  clear inv; have inv := inv'; clear inv'
  simp only [List.setIfInBounds_toArray, List.set_cons_zero, List.set_cons_succ]
  refine till_at 2 87 (.pointer (some ⟨A, 0, none⟩)) inv rfl rfl (by decide) (by decide +kernel) (by decide +kernel) (fun _ _ _ h => h) (hS0) (Or.inl ⟨by rfl, fun w' hS' => by go_simp⟩) (fun inv' => ?_)
  clear inv; have inv := inv'; clear inv'
  simp only [List.setIfInBounds_toArray, List.set_cons_zero, List.set_cons_succ]
  refine till_at 3 88 (.int .u32 (x0 : Nat)) inv rfl rfl (by decide) (by decide +kernel) (by decide +kernel) (fun _ _ _ h => h) (hS0) (Or.inl ⟨by rfl, fun w' hS' => by have q := g0.out w' hS'; go_simp⟩) (fun inv' => ?_)
  clear inv; have inv := inv'; clear inv'
  simp only [List.setIfInBounds_toArray, List.set_cons_zero, List.set_cons_succ]
  refine till_at 4 89 (.pointer (some ⟨A, 3, none⟩)) inv rfl rfl (by decide) (by decide +kernel) (by decide +kernel) (fun _ _ _ h => h) (hS0) (Or.inl ⟨by rfl, fun w' hS' => by go_simp⟩) (fun inv' => ?_)
  clear inv; have inv := inv'; clear inv'
  simp only [List.setIfInBounds_toArray, List.set_cons_zero, List.set_cons_succ]
  refine till_at 5 90 (.int .u32 (x3 : Nat)) inv rfl rfl (by decide) (by decide +kernel) (by decide +kernel) (fun _ _ _ h => h) (hS0) (Or.inl ⟨by rfl, fun w' hS' => by have q := g3.out w' hS'; go_simp⟩) (fun inv' => ?_)
  clear inv; have inv := inv'; clear inv'
  simp only [List.setIfInBounds_toArray, List.set_cons_zero, List.set_cons_succ]
  refine till_at 6 91 (.pointer (some ⟨A, 2, none⟩)) inv rfl rfl (by decide) (by decide +kernel) (by decide +kernel) (fun _ _ _ h => h) (hS0) (Or.inl ⟨by rfl, fun w' hS' => by go_simp⟩) (fun inv' => ?_)
  clear inv; have inv := inv'; clear inv'
  simp only [List.setIfInBounds_toArray, List.set_cons_zero, List.set_cons_succ]
  refine till_at 7 92 (.int .u32 (x2 : Nat)) inv rfl rfl (by decide) (by decide +kernel) (by decide +kernel) (fun _ _ _ h => h) (hS0) (Or.inl ⟨by rfl, fun w' hS' => by have q := g2.out w' hS'; go_simp⟩) (fun inv' => ?_)
  clear inv; have inv := inv'; clear inv'
  simp only [List.setIfInBounds_toArray, List.set_cons_zero, List.set_cons_succ]
  refine till_at 8 93 (.pointer (some ⟨A, 1, none⟩)) inv rfl rfl (by decide) (by decide +kernel) (by decide +kernel) (fun _ _ _ h => h) (hS0) (Or.inl ⟨by rfl, fun w' hS' => by go_simp⟩) (fun inv' => ?_)
  clear inv; have inv := inv'; clear inv'
  simp only [List.setIfInBounds_toArray, List.set_cons_zero, List.set_cons_succ]
  refine till_at 9 94 (.int .u32 (x1 : Nat)) inv rfl rfl (by decide) (by decide +kernel) (by decide +kernel) (fun _ _ _ h => h) (hS0) (Or.inl ⟨by rfl, fun w' hS' => by have q := g1.out w' hS'; go_simp⟩) (fun inv' => ?_)
  clear inv; have inv := inv'; clear inv'
  simp only [List.setIfInBounds_toArray, List.set_cons_zero, List.set_cons_succ]
  refine till_at 11 96 (.pointer (some ⟨g, o, none⟩)) inv rfl rfl (by decide) (by decide +kernel) (by decide +kernel) (fun _ _ _ h => h) (hS0) (Or.inl ⟨by rfl, fun w' hS' => by go_simp⟩) (fun inv' => ?_)
  clear inv; have inv := inv'; clear inv'
  simp only [List.setIfInBounds_toArray, List.set_cons_zero, List.set_cons_succ]
  refine till_at 12 97 (.pointer (some ⟨A, 1, none⟩)) inv rfl rfl (by decide) (by decide +kernel) (by decide +kernel) (fun _ _ _ h => h) (hS0) (Or.inl ⟨by rfl, fun w' hS' => by go_simp⟩) (fun inv' => ?_)
  clear inv; have inv := inv'; clear inv'
  simp only [List.setIfInBounds_toArray, List.set_cons_zero, List.set_cons_succ]
  refine till_at 13 98 (.int .u32 (x1 : Nat)) inv rfl rfl (by decide) (by decide +kernel) (by decide +kernel) (fun _ _ _ h => h) (hS0) (Or.inl ⟨by rfl, fun w' hS' => by have q := g1.out w' hS'; go_simp⟩) (fun inv' => ?_)
  clear inv; have inv := inv'; clear inv'
  simp only [List.setIfInBounds_toArray, List.set_cons_zero, List.set_cons_succ]
  refine till_at 14 99 (.pointer (some ⟨A, 0, none⟩)) inv rfl rfl (by decide) (by decide +kernel) (by decide +kernel) (fun _ _ _ h => h) (hS0) (Or.inl ⟨by rfl, fun w' hS' => by go_simp⟩) (fun inv' => ?_)
  clear inv; have inv := inv'; clear inv'
  simp only [List.setIfInBounds_toArray, List.set_cons_zero, List.set_cons_succ]
  refine till_at 15 100 (.int .u32 (x0 : Nat)) inv rfl rfl (by decide) (by decide +kernel) (by decide +kernel) (fun _ _ _ h => h) (hS0) (Or.inl ⟨by rfl, fun w' hS' => by have q := g0.out w' hS'; go_simp⟩) (fun inv' => ?_)
  clear inv; have inv := inv'; clear inv'
  simp only [List.setIfInBounds_toArray, List.set_cons_zero, List.set_cons_succ]
  refine till_at 16 101 (.pointer (some ⟨A, 3, none⟩)) inv rfl rfl (by decide) (by decide +kernel) (by decide +kernel) (fun _ _ _ h => h) (hS0) (Or.inl ⟨by rfl, fun w' hS' => by go_simp⟩) (fun inv' => ?_)
  clear inv; have inv := inv'; clear inv'
  simp only [List.setIfInBounds_toArray, List.set_cons_zero, List.set_cons_succ]
  refine till_at 17 102 (.int .u32 (x3 : Nat)) inv rfl rfl (by decide) (by decide +kernel) (by decide +kernel) (fun _ _ _ h => h) (hS0) (Or.inl ⟨by rfl, fun w' hS' => by have q := g3.out w' hS'; go_simp⟩) (fun inv' => ?_)
  clear inv; have inv := inv'; clear inv'
  simp only [List.setIfInBounds_toArray, List.set_cons_zero, List.set_cons_succ]
  refine till_at 18 103 (.pointer (some ⟨A, 2, none⟩)) inv rfl rfl (by decide) (by decide +kernel) (by decide +kernel) (fun _ _ _ h => h) (hS0) (Or.inl ⟨by rfl, fun w' hS' => by go_simp⟩) (fun inv' => ?_)
  clear inv; have inv := inv'; clear inv'
  simp only [List.setIfInBounds_toArray, List.set_cons_zero, List.set_cons_succ]
  refine till_at 19 104 (.int .u32 (x2 : Nat)) inv rfl rfl (by decide) (by decide +kernel) (by decide +kernel) (fun _ _ _ h => h) (hS0) (Or.inl ⟨by rfl, fun w' hS' => by have q := g2.out w' hS'; go_simp⟩) (fun inv' => ?_)
  clear inv; have inv := inv'; clear inv'
  simp only [List.setIfInBounds_toArray, List.set_cons_zero, List.set_cons_succ]
  refine till_at 21 106 (.pointer (some ⟨g, o, none⟩)) inv rfl rfl (by decide) (by decide +kernel) (by decide +kernel) (fun _ _ _ h => h) (hS0) (Or.inl ⟨by rfl, fun w' hS' => by go_simp⟩) (fun inv' => ?_)
  clear inv; have inv := inv'; clear inv'
  simp only [List.setIfInBounds_toArray, List.set_cons_zero, List.set_cons_succ]
  refine till_at 22 107 (.pointer (some ⟨A, 2, none⟩)) inv rfl rfl (by decide) (by decide +kernel) (by decide +kernel) (fun _ _ _ h => h) (hS0) (Or.inl ⟨by rfl, fun w' hS' => by go_simp⟩) (fun inv' => ?_)
  clear inv; have inv := inv'; clear inv'
  simp only [List.setIfInBounds_toArray, List.set_cons_zero, List.set_cons_succ]
  refine till_at 23 108 (.int .u32 (x2 : Nat)) inv rfl rfl (by decide) (by decide +kernel) (by decide +kernel) (fun _ _ _ h => h) (hS0) (Or.inl ⟨by rfl, fun w' hS' => by have q := g2.out w' hS'; go_simp⟩) (fun inv' => ?_)
  clear inv; have inv := inv'; clear inv'
  simp only [List.setIfInBounds_toArray, List.set_cons_zero, List.set_cons_succ]
  refine till_at 24 109 (.pointer (some ⟨A, 1, none⟩)) inv rfl rfl (by decide) (by decide +kernel) (by decide +kernel) (fun _ _ _ h => h) (hS0) (Or.inl ⟨by rfl, fun w' hS' => by go_simp⟩) (fun inv' => ?_)
  clear inv; have inv := inv'; clear inv'
  simp only [List.setIfInBounds_toArray, List.set_cons_zero, List.set_cons_succ]
  refine till_at 25 110 (.int .u32 (x1 : Nat)) inv rfl rfl (by decide) (by decide +kernel) (by decide +kernel) (fun _ _ _ h => h) (hS0) (Or.inl ⟨by rfl, fun w' hS' => by have q := g1.out w' hS'; go_simp⟩) (fun inv' => ?_)
  clear inv; have inv := inv'; clear inv'
  simp only [List.setIfInBounds_toArray, List.set_cons_zero, List.set_cons_succ]
  refine till_at 26 111 (.pointer (some ⟨A, 0, none⟩)) inv rfl rfl (by decide) (by decide +kernel) (by decide +kernel) (fun _ _ _ h => h) (hS0) (Or.inl ⟨by rfl, fun w' hS' => by go_simp⟩) (fun inv' => ?_)
  clear inv; have inv := inv'; clear inv'
  simp only [List.setIfInBounds_toArray, List.set_cons_zero, List.set_cons_succ]
  refine till_at 27 112 (.int .u32 (x0 : Nat)) inv rfl rfl (by decide) (by decide +kernel) (by decide +kernel) (fun _ _ _ h => h) (hS0) (Or.inl ⟨by rfl, fun w' hS' => by have q := g0.out w' hS'; go_simp⟩) (fun inv' => ?_)
  clear inv; have inv := inv'; clear inv'
  simp only [List.setIfInBounds_toArray, List.set_cons_zero, List.set_cons_succ]
  refine till_at 28 113 (.pointer (some ⟨A, 3, none⟩)) inv rfl rfl (by decide) (by decide +kernel) (by decide +kernel) (fun _ _ _ h => h) (hS0) (Or.inl ⟨by rfl, fun w' hS' => by go_simp⟩) (fun inv' => ?_)
  clear inv; have inv := inv'; clear inv'
  simp only [List.setIfInBounds_toArray, List.set_cons_zero, List.set_cons_succ]
  refine till_at 29 114 (.int .u32 (x3 : Nat)) inv rfl rfl (by decide) (by decide +kernel) (by decide +kernel) (fun _ _ _ h => h) (hS0) (Or.inl ⟨by rfl, fun w' hS' => by have q := g3.out w' hS'; go_simp⟩) (fun inv' => ?_)
  clear inv; have inv := inv'; clear inv'
  simp only [List.setIfInBounds_toArray, List.set_cons_zero, List.set_cons_succ]
  refine till_at 31 116 (.pointer (some ⟨g, o, none⟩)) inv rfl rfl (by decide) (by decide +kernel) (by decide +kernel) (fun _ _ _ h => h) (hS0) (Or.inl ⟨by rfl, fun w' hS' => by go_simp⟩) (fun inv' => ?_)
  clear inv; have inv := inv'; clear inv'
  simp only [List.setIfInBounds_toArray, List.set_cons_zero, List.set_cons_succ]
  refine till_at 32 117 (.pointer (some ⟨A, 3, none⟩)) inv rfl rfl (by decide) (by decide +kernel) (by decide +kernel) (fun _ _ _ h => h) (hS0) (Or.inl ⟨by rfl, fun w' hS' => by go_simp⟩) (fun inv' => ?_)
  clear inv; have inv := inv'; clear inv'
  simp only [List.setIfInBounds_toArray, List.set_cons_zero, List.set_cons_succ]
  refine till_at 33 118 (.int .u32 (x3 : Nat)) inv rfl rfl (by decide) (by decide +kernel) (by decide +kernel) (fun _ _ _ h => h) (hS0) (Or.inl ⟨by rfl, fun w' hS' => by have q := g3.out w' hS'; go_simp⟩) (fun inv' => ?_)
  clear inv; have inv := inv'; clear inv'
  simp only [List.setIfInBounds_toArray, List.set_cons_zero, List.set_cons_succ]
  refine till_at 34 119 (.pointer (some ⟨A, 2, none⟩)) inv rfl rfl (by decide) (by decide +kernel) (by decide +kernel) (fun _ _ _ h => h) (hS0) (Or.inl ⟨by rfl, fun w' hS' => by go_simp⟩) (fun inv' => ?_)
  clear inv; have inv := inv'; clear inv'
  simp only [List.setIfInBounds_toArray, List.set_cons_zero, List.set_cons_succ]
  refine till_at 35 120 (.int .u32 (x2 : Nat)) inv rfl rfl (by decide) (by decide +kernel) (by decide +kernel) (fun _ _ _ h => h) (hS0) (Or.inl ⟨by rfl, fun w' hS' => by have q := g2.out w' hS'; go_simp⟩) (fun inv' => ?_)
  clear inv; have inv := inv'; clear inv'
  simp only [List.setIfInBounds_toArray, List.set_cons_zero, List.set_cons_succ]
  refine till_at 36 121 (.pointer (some ⟨A, 1, none⟩)) inv rfl rfl (by decide) (by decide +kernel) (by decide +kernel) (fun _ _ _ h => h) (hS0) (Or.inl ⟨by rfl, fun w' hS' => by go_simp⟩) (fun inv' => ?_)
  clear inv; have inv := inv'; clear inv'
  simp only [List.setIfInBounds_toArray, List.set_cons_zero, List.set_cons_succ]
  refine till_at 37 122 (.int .u32 (x1 : Nat)) inv rfl rfl (by decide) (by decide +kernel) (by decide +kernel) (fun _ _ _ h => h) (hS0) (Or.inl ⟨by rfl, fun w' hS' => by have q := g1.out w' hS'; go_simp⟩) (fun inv' => ?_)
  clear inv; have inv := inv'; clear inv'
  simp only [List.setIfInBounds_toArray, List.set_cons_zero, List.set_cons_succ]
  refine till_at 38 123 (.pointer (some ⟨A, 0, none⟩)) inv rfl rfl (by decide) (by decide +kernel) (by decide +kernel) (fun _ _ _ h => h) (hS0) (Or.inl ⟨by rfl, fun w' hS' => by go_simp⟩) (fun inv' => ?_)
  clear inv; have inv := inv'; clear inv'
  simp only [List.setIfInBounds_toArray, List.set_cons_zero, List.set_cons_succ]
  refine till_at 39 124 (.int .u32 (x0 : Nat)) inv rfl rfl (by decide) (by decide +kernel) (by decide +kernel) (fun _ _ _ h => h) (hS0) (Or.inl ⟨by rfl, fun w' hS' => by have q := g0.out w' hS'; go_simp⟩) (fun inv' => ?_)
  clear inv; have inv := inv'; clear inv'
  simp only [List.setIfInBounds_toArray, List.set_cons_zero, List.set_cons_succ]
  refine till_head (i := 10) inv (by decide +kernel) (by decide) rfl (fun K hK => ?_)
  go_simp
  refine (k0.out _ hS0).mono ?_
  rintro e1 u0 ⟨rfl, hu0⟩
  go_wp2_with fail
  refine hK.out _ _ hu0 (fun inv' => ?_)
  clear hK K inv; have inv := inv'; clear inv'
  try simp only [List.setIfInBounds_toArray, List.set_cons_zero, List.set_cons_succ]
  refine till_head (i := 20) inv (by decide +kernel) (by decide) rfl (fun K hK => ?_)
  go_simp
  refine (k1.out _ hu0).mono ?_
  rintro e1 u1 ⟨rfl, hu1⟩
  go_wp2_with fail
  refine hK.out _ _ hu1 (fun inv' => ?_)
  clear hK K inv; have inv := inv'; clear inv'
  try simp only [List.setIfInBounds_toArray, List.set_cons_zero, List.set_cons_succ]
  refine till_head (i := 30) inv (by decide +kernel) (by decide) rfl (fun K hK => ?_)
  go_simp
  refine (k2.out _ hu1).mono ?_
  rintro e1 u2 ⟨rfl, hu2⟩
  go_wp2_with fail
  refine hK.out _ _ hu2 (fun inv' => ?_)
  clear hK K inv; have inv := inv'; clear inv'
  try simp only [List.setIfInBounds_toArray, List.set_cons_zero, List.set_cons_succ]
  refine till_head (i := 40) inv (by decide +kernel) (by decide) rfl (fun K hK => ?_)
  go_simp
  refine (k3.out _ hu2).mono ?_
  rintro e1 u3 ⟨rfl, hu3⟩
  go_wp2_with fail
  refine hK.out _ _ hu3 (fun inv' => ?_)
  clear hK K inv; have inv := inv'; clear inv'
  try simp only [List.setIfInBounds_toArray, List.set_cons_zero, List.set_cons_succ]
  refine till_at 41 126 (.agg #[.int .u32 (m0 : Nat), .int .u32 (m1 : Nat), .int .u32 (m2 : Nat), .int .u32 (m3 : Nat)]) inv rfl rfl (by decide) (by decide +kernel) (by decide +kernel) (fun _ _ _ h => h) (hu3) (yieldsIf_build (by rfl) 115 #[(0, .tmp 95), (1, .tmp 105), (2, .tmp 115), (3, .tmp 125)] rfl _ (by simp only [List.map_toArray, List.map_cons, List.map_nil]; kernel_rfl)) (fun inv' => ?_)
  clear inv; have inv := inv'; clear inv'
  simp only [List.setIfInBounds_toArray, List.set_cons_zero, List.set_cons_succ]
  refine till_tail (i := 42) (by decide +kernel) (by decide) rfl (fun K hK => ?_)
  go_simp
  refine (ka.out _ hu3).mono ?_
  rintro e1 u4 ⟨rfl, hu4⟩
  go_wp2_with fail
  refine hK.out _ _ ?_
  clear hK K
  try simp only [List.setIfInBounds_toArray, List.set_cons_zero, List.set_cons_succ]
  refine till_tail (i := 43) (by decide +kernel) (by decide) rfl (fun K hK => ?_)
  go_simp
  refine (kt.out _).mono ?_
  rintro e1 u5 ⟨rfl, hu5⟩
  go_wp2_with fail
  refine hK.out _ _ ?_
  clear hK K
  try simp only [List.setIfInBounds_toArray, List.set_cons_zero, List.set_cons_succ]
  refine till_tail (i := 44) (by decide +kernel) (by decide) rfl (fun K hK => ?_)
  rw [if_pos (by rfl)]
  refine wp_store_mid 42 (.tmp 4) (.tmp 128) rfl C 0 #[.int .u8 (bt0 n0 : Nat), .int .u8 (bt1 n0 : Nat), .int .u8 (bt2 n0 : Nat), .int .u8 (bt3 n0 : Nat), .int .u8 (bt0 n1 : Nat), .int .u8 (bt1 n1 : Nat), .int .u8 (bt2 n1 : Nat), .int .u8 (bt3 n1 : Nat), .int .u8 (bt0 n2 : Nat), .int .u8 (bt1 n2 : Nat), .int .u8 (bt2 n2 : Nat), .int .u8 (bt3 n2 : Nat), .int .u8 (bt0 n3 : Nat), .int .u8 (bt1 n3 : Nat), .int .u8 (bt2 n3 : Nat), .int .u8 (bt3 n3 : Nat)] rfl rfl (hth u4 u5 hu4 hu5) (size42) (by kernel_rfl) ?_
  refine hK.out _ _ ?_
  clear hK K
  try simp only [List.setIfInBounds_toArray, List.set_cons_zero, List.set_cons_succ]
  refine till_done (by decide +kernel) ?_ _
  refine NoPanic.normal ?_
  exact HQ u4 u5 hu4 hu5
end Go.Proofs.YtgmfiljjogdccaaDoor
namespace Go.Proofs.YtgmfiljjogdccaaDoor
open Go.RowKit
set_option linter.unusedVariables false
set_option linter.unusedSimpArgs false
theorem there_own (w : World) (C : Array Value) (t : TypeId) {n : Nat} (hn : C.size = n) : (w.alloc (.cells C t)).there w.heap.size 0 n := fun j hj => by
  subst hn
  refine ⟨?_, World.frozen?_alloc_at C t _ _ rfl⟩
  rw [World.cell?_alloc_at C t _ _ rfl]
  simp
  exact hj
/-- What stands behind the first statement of decrypt. -/
structure DecAt (w : World) (t0 t1 t2 t3 : Nat) (A : Nat) (u : World) : Prop where
  old : Below w.heap.size w u
  res : u.there (w.heap.size + 1) 0 16
  far : w.heap.size + 2 ≤ A
  here : A < u.heap.size
  cells : u.rangeAt A 0 [.int .u32 (t0 : Nat), .int .u32 (t1 : Nat), .int .u32 (t2 : Nat), .int .u32 (t3 : Nat)]
  room : u.there A 0 4
theorem DecAt.mk' {w u u' : World} {t0 t1 t2 t3 A : Nat} {W2 : World} (h2 : Below w.heap.size w W2) (ht : W2.there (w.heap.size + 1) 0 16) (hb : Below (w.heap.size + 2) W2 u) (hA : w.heap.size + 2 ≤ A) (hAu : A < u.heap.size) (htA : u.there A 0 4) :
    DecAt w t0 t1 t2 t3 A (u.setCells A 0 [.int .u32 (t0 : Nat), .int .u32 (t1 : Nat), .int .u32 (t2 : Nat), .int .u32 (t3 : Nat)]) :=
  ⟨below_setCells A (by omega) _ _ _ (h2.trans (hb.mono (by omega))), World.there_setCells (there_below ht hb (by omega)) _ _ _, hA, by rw [size_setCells]; exact hAu, World.rangeAt_setCells_same _ _ _ _ htA, World.there_setCells htA _ _ _⟩
set_option maxHeartbeats 6400000 in
set_option maxRecDepth 100000 in
theorem dec_ok (g o nr : Nat) (K : Nat → Nat) (s : W4) (w : World) (hC : Ciph w g o nr K) (hs : s.ok) :
    Calls Tryd.prog 44 #[.pointer (some ⟨g, o, none⟩), s.blk] w fun e w' => e = .returned (dcW nr K s).blk ∧ Below w.heap.size w w' := by
  have HC : Hid (Ciph w g o nr K) := hC
  have hnr := hC.most
  have hn1 := hC.some
  clear hC
  have HS : Hid s.ok := hs
  clear hs
  obtain ⟨⟨t0, t1, t2, t3⟩, HT⟩ : ∃ t, Hid (t = addK K nr s) := ⟨_, rfl⟩
  have HTok : Hid (W4.ok ⟨t0, t1, t2, t3⟩) := by show W4.ok _; rw [HT.out]; exact addK_ok HC.out.small _ HS.out
  have HFB : Hid (∀ u, Calls Tryd.prog 64 #[.agg #[.int .u8 (bt0 s.a : Nat), .int .u8 (bt1 s.a : Nat), .int .u8 (bt2 s.a : Nat), .int .u8 (bt3 s.a : Nat), .int .u8 (bt0 s.b : Nat), .int .u8 (bt1 s.b : Nat), .int .u8 (bt2 s.b : Nat), .int .u8 (bt3 s.b : Nat), .int .u8 (bt0 s.c : Nat), .int .u8 (bt1 s.c : Nat), .int .u8 (bt2 s.c : Nat), .int .u8 (bt3 s.c : Nat), .int .u8 (bt0 s.d : Nat), .int .u8 (bt1 s.d : Nat), .int .u8 (bt2 s.d : Nat), .int .u8 (bt3 s.d : Nat)]] u fun e u' => e = .returned s.val ∧ Below u.heap.size u u') := fun u => from_c s HS.out u
  have HA0 : Hid (∀ u, Ciph u g o nr K → Calls Tryd.prog 63 #[.pointer (some ⟨g, o, none⟩), s.val, .int .i64 (nr : Nat)] u fun e u' => e = .returned (.agg #[.int .u32 (t0 : Nat), .int .u32 (t1 : Nat), .int .u32 (t2 : Nat), .int .u32 (t3 : Nat)]) ∧ Below u.heap.size u u') := add_d nr (Nat.le_refl _) s ⟨t0, t1, t2, t3⟩ HS.out HT.out
  have H2 : Hid (Below w.heap.size w ((w.alloc (.cells #[.int .u8 (bt0 s.a : Nat), .int .u8 (bt1 s.a : Nat), .int .u8 (bt2 s.a : Nat), .int .u8 (bt3 s.a : Nat), .int .u8 (bt0 s.b : Nat), .int .u8 (bt1 s.b : Nat), .int .u8 (bt2 s.b : Nat), .int .u8 (bt3 s.b : Nat), .int .u8 (bt0 s.c : Nat), .int .u8 (bt1 s.c : Nat), .int .u8 (bt2 s.c : Nat), .int .u8 (bt3 s.c : Nat), .int .u8 (bt0 s.d : Nat), .int .u8 (bt1 s.d : Nat), .int .u8 (bt2 s.d : Nat), .int .u8 (bt3 s.d : Nat)] 42)).alloc (.cells #[.int .u8 0, .int .u8 0, .int .u8 0, .int .u8 0, .int .u8 0, .int .u8 0, .int .u8 0, .int .u8 0, .int .u8 0, .int .u8 0, .int .u8 0, .int .u8 0, .int .u8 0, .int .u8 0, .int .u8 0, .int .u8 0] 42)) ∧ ((w.alloc (.cells #[.int .u8 (bt0 s.a : Nat), .int .u8 (bt1 s.a : Nat), .int .u8 (bt2 s.a : Nat), .int .u8 (bt3 s.a : Nat), .int .u8 (bt0 s.b : Nat), .int .u8 (bt1 s.b : Nat), .int .u8 (bt2 s.b : Nat), .int .u8 (bt3 s.b : Nat), .int .u8 (bt0 s.c : Nat), .int .u8 (bt1 s.c : Nat), .int .u8 (bt2 s.c : Nat), .int .u8 (bt3 s.c : Nat), .int .u8 (bt0 s.d : Nat), .int .u8 (bt1 s.d : Nat), .int .u8 (bt2 s.d : Nat), .int .u8 (bt3 s.d : Nat)] 42)).alloc (.cells #[.int .u8 0, .int .u8 0, .int .u8 0, .int .u8 0, .int .u8 0, .int .u8 0, .int .u8 0, .int .u8 0, .int .u8 0, .int .u8 0, .int .u8 0, .int .u8 0, .int .u8 0, .int .u8 0, .int .u8 0, .int .u8 0] 42)).there (w.heap.size + 1) 0 16) := ⟨(two_allocs w _ _ 42 42).1, there_two w _ _ 42 42 rfl⟩
  have HSZ : Hid (((w.alloc (.cells #[.int .u8 (bt0 s.a : Nat), .int .u8 (bt1 s.a : Nat), .int .u8 (bt2 s.a : Nat), .int .u8 (bt3 s.a : Nat), .int .u8 (bt0 s.b : Nat), .int .u8 (bt1 s.b : Nat), .int .u8 (bt2 s.b : Nat), .int .u8 (bt3 s.b : Nat), .int .u8 (bt0 s.c : Nat), .int .u8 (bt1 s.c : Nat), .int .u8 (bt2 s.c : Nat), .int .u8 (bt3 s.c : Nat), .int .u8 (bt0 s.d : Nat), .int .u8 (bt1 s.d : Nat), .int .u8 (bt2 s.d : Nat), .int .u8 (bt3 s.d : Nat)] 42)).alloc (.cells #[.int .u8 0, .int .u8 0, .int .u8 0, .int .u8 0, .int .u8 0, .int .u8 0, .int .u8 0, .int .u8 0, .int .u8 0, .int .u8 0, .int .u8 0, .int .u8 0, .int .u8 0, .int .u8 0, .int .u8 0, .int .u8 0] 42)).heap.size = w.heap.size + 2) := by show _ = _; simp
  have HCS : Hid (∀ u, Below (w.heap.size + 2) ((w.alloc (.cells #[.int .u8 (bt0 s.a : Nat), .int .u8 (bt1 s.a : Nat), .int .u8 (bt2 s.a : Nat), .int .u8 (bt3 s.a : Nat), .int .u8 (bt0 s.b : Nat), .int .u8 (bt1 s.b : Nat), .int .u8 (bt2 s.b : Nat), .int .u8 (bt3 s.b : Nat), .int .u8 (bt0 s.c : Nat), .int .u8 (bt1 s.c : Nat), .int .u8 (bt2 s.c : Nat), .int .u8 (bt3 s.c : Nat), .int .u8 (bt0 s.d : Nat), .int .u8 (bt1 s.d : Nat), .int .u8 (bt2 s.d : Nat), .int .u8 (bt3 s.d : Nat)] 42)).alloc (.cells #[.int .u8 0, .int .u8 0, .int .u8 0, .int .u8 0, .int .u8 0, .int .u8 0, .int .u8 0, .int .u8 0, .int .u8 0, .int .u8 0, .int .u8 0, .int .u8 0, .int .u8 0, .int .u8 0, .int .u8 0, .int .u8 0] 42)) u → Ciph u g o nr K) := fun u hu => (HC.out.below H2.out.1 HC.out.here).below hu (by have := HC.out.here; omega)
  have gr : Hid (∀ u, Below (w.heap.size + 2) ((w.alloc (.cells #[.int .u8 (bt0 s.a : Nat), .int .u8 (bt1 s.a : Nat), .int .u8 (bt2 s.a : Nat), .int .u8 (bt3 s.a : Nat), .int .u8 (bt0 s.b : Nat), .int .u8 (bt1 s.b : Nat), .int .u8 (bt2 s.b : Nat), .int .u8 (bt3 s.b : Nat), .int .u8 (bt0 s.c : Nat), .int .u8 (bt1 s.c : Nat), .int .u8 (bt2 s.c : Nat), .int .u8 (bt3 s.c : Nat), .int .u8 (bt0 s.d : Nat), .int .u8 (bt1 s.d : Nat), .int .u8 (bt2 s.d : Nat), .int .u8 (bt3 s.d : Nat)] 42)).alloc (.cells #[.int .u8 0, .int .u8 0, .int .u8 0, .int .u8 0, .int .u8 0, .int .u8 0, .int .u8 0, .int .u8 0, .int .u8 0, .int .u8 0, .int .u8 0, .int .u8 0, .int .u8 0, .int .u8 0, .int .u8 0, .int .u8 0] 42)) u → u.cell? ⟨g, o, none⟩ = some (.int .i64 (nr : Nat))) := fun u hu => (HCS.out u hu).rounds
  have gl : Hid (∀ u, Below (w.heap.size + 2) ((w.alloc (.cells #[.int .u8 (bt0 s.a : Nat), .int .u8 (bt1 s.a : Nat), .int .u8 (bt2 s.a : Nat), .int .u8 (bt3 s.a : Nat), .int .u8 (bt0 s.b : Nat), .int .u8 (bt1 s.b : Nat), .int .u8 (bt2 s.b : Nat), .int .u8 (bt3 s.b : Nat), .int .u8 (bt0 s.c : Nat), .int .u8 (bt1 s.c : Nat), .int .u8 (bt2 s.c : Nat), .int .u8 (bt3 s.c : Nat), .int .u8 (bt0 s.d : Nat), .int .u8 (bt1 s.d : Nat), .int .u8 (bt2 s.d : Nat), .int .u8 (bt3 s.d : Nat)] 42)).alloc (.cells #[.int .u8 0, .int .u8 0, .int .u8 0, .int .u8 0, .int .u8 0, .int .u8 0, .int .u8 0, .int .u8 0, .int .u8 0, .int .u8 0, .int .u8 0, .int .u8 0, .int .u8 0, .int .u8 0, .int .u8 0, .int .u8 0] 42)) u → u.rangeAt w.heap.size 0 [.int .u8 (bt0 s.a : Nat), .int .u8 (bt1 s.a : Nat), .int .u8 (bt2 s.a : Nat), .int .u8 (bt3 s.a : Nat), .int .u8 (bt0 s.b : Nat), .int .u8 (bt1 s.b : Nat), .int .u8 (bt2 s.b : Nat), .int .u8 (bt3 s.b : Nat), .int .u8 (bt0 s.c : Nat), .int .u8 (bt1 s.c : Nat), .int .u8 (bt2 s.c : Nat), .int .u8 (bt3 s.c : Nat), .int .u8 (bt0 s.d : Nat), .int .u8 (bt1 s.d : Nat), .int .u8 (bt2 s.d : Nat), .int .u8 (bt3 s.d : Nat)]) := fun u hu j v hv => (hu.cell (by simp)).trans ((by simpa using (two_allocs w #[.int .u8 (bt0 s.a : Nat), .int .u8 (bt1 s.a : Nat), .int .u8 (bt2 s.a : Nat), .int .u8 (bt3 s.a : Nat), .int .u8 (bt0 s.b : Nat), .int .u8 (bt1 s.b : Nat), .int .u8 (bt2 s.b : Nat), .int .u8 (bt3 s.b : Nat), .int .u8 (bt0 s.c : Nat), .int .u8 (bt1 s.c : Nat), .int .u8 (bt2 s.c : Nat), .int .u8 (bt3 s.c : Nat), .int .u8 (bt0 s.d : Nat), .int .u8 (bt1 s.d : Nat), .int .u8 (bt2 s.d : Nat), .int .u8 (bt3 s.d : Nat)] #[.int .u8 0, .int .u8 0, .int .u8 0, .int .u8 0, .int .u8 0, .int .u8 0, .int .u8 0, .int .u8 0, .int .u8 0, .int .u8 0, .int .u8 0, .int .u8 0, .int .u8 0, .int .u8 0, .int .u8 0, .int .u8 0] 42 42).2 j v (by simpa using hv)))
  show Calls Tryd.prog 44 #[.pointer (some ⟨g, o, none⟩), .agg #[.int .u8 (bt0 s.a : Nat), .int .u8 (bt1 s.a : Nat), .int .u8 (bt2 s.a : Nat), .int .u8 (bt3 s.a : Nat), .int .u8 (bt0 s.b : Nat), .int .u8 (bt1 s.b : Nat), .int .u8 (bt2 s.b : Nat), .int .u8 (bt3 s.b : Nat), .int .u8 (bt0 s.c : Nat), .int .u8 (bt1 s.c : Nat), .int .u8 (bt2 s.c : Nat), .int .u8 (bt3 s.c : Nat), .int .u8 (bt0 s.d : Nat), .int .u8 (bt1 s.d : Nat), .int .u8 (bt2 s.d : Nat), .int .u8 (bt3 s.d : Nat)]] w _
  go_enter Tryd.func44, Tryd.ntmps44
  go_upto_region 1 with fail
  go_cut [5] from 7 to 14 (fun p wx => ∃ A, p = .pointer (some ⟨A, 0, none⟩) ∧ Hid (DecAt w t0 t1 t2 t3 A wx))
  case first =>
    have hS0 : Below (w.heap.size + 2) ((w.alloc (.cells #[.int .u8 (bt0 s.a : Nat), .int .u8 (bt1 s.a : Nat), .int .u8 (bt2 s.a : Nat), .int .u8 (bt3 s.a : Nat), .int .u8 (bt0 s.b : Nat), .int .u8 (bt1 s.b : Nat), .int .u8 (bt2 s.b : Nat), .int .u8 (bt3 s.b : Nat), .int .u8 (bt0 s.c : Nat), .int .u8 (bt1 s.c : Nat), .int .u8 (bt2 s.c : Nat), .int .u8 (bt3 s.c : Nat), .int .u8 (bt0 s.d : Nat), .int .u8 (bt1 s.d : Nat), .int .u8 (bt2 s.d : Nat), .int .u8 (bt3 s.d : Nat)] 42)).alloc (.cells #[.int .u8 0, .int .u8 0, .int .u8 0, .int .u8 0, .int .u8 0, .int .u8 0, .int .u8 0, .int .u8 0, .int .u8 0, .int .u8 0, .int .u8 0, .int .u8 0, .int .u8 0, .int .u8 0, .int .u8 0, .int .u8 0] 42)) (((w.alloc (.cells #[.int .u8 (bt0 s.a : Nat), .int .u8 (bt1 s.a : Nat), .int .u8 (bt2 s.a : Nat), .int .u8 (bt3 s.a : Nat), .int .u8 (bt0 s.b : Nat), .int .u8 (bt1 s.b : Nat), .int .u8 (bt2 s.b : Nat), .int .u8 (bt3 s.b : Nat), .int .u8 (bt0 s.c : Nat), .int .u8 (bt1 s.c : Nat), .int .u8 (bt2 s.c : Nat), .int .u8 (bt3 s.c : Nat), .int .u8 (bt0 s.d : Nat), .int .u8 (bt1 s.d : Nat), .int .u8 (bt2 s.d : Nat), .int .u8 (bt3 s.d : Nat)] 42)).alloc (.cells #[.int .u8 0, .int .u8 0, .int .u8 0, .int .u8 0, .int .u8 0, .int .u8 0, .int .u8 0, .int .u8 0, .int .u8 0, .int .u8 0, .int .u8 0, .int .u8 0, .int .u8 0, .int .u8 0, .int .u8 0, .int .u8 0] 42))).drew := (Below.refl _ _).drew
    refine wp_region_noPanic ?_
    refine wp_region_held_drew (S := fun u => Below (w.heap.size + 2) ((w.alloc (.cells #[.int .u8 (bt0 s.a : Nat), .int .u8 (bt1 s.a : Nat), .int .u8 (bt2 s.a : Nat), .int .u8 (bt3 s.a : Nat), .int .u8 (bt0 s.b : Nat), .int .u8 (bt1 s.b : Nat), .int .u8 (bt2 s.b : Nat), .int .u8 (bt3 s.b : Nat), .int .u8 (bt0 s.c : Nat), .int .u8 (bt1 s.c : Nat), .int .u8 (bt2 s.c : Nat), .int .u8 (bt3 s.c : Nat), .int .u8 (bt0 s.d : Nat), .int .u8 (bt1 s.d : Nat), .int .u8 (bt2 s.d : Nat), .int .u8 (bt3 s.d : Nat)] 42)).alloc (.cells #[.int .u8 0, .int .u8 0, .int .u8 0, .int .u8 0, .int .u8 0, .int .u8 0, .int .u8 0, .int .u8 0, .int .u8 0, .int .u8 0, .int .u8 0, .int .u8 0, .int .u8 0, .int .u8 0, .int .u8 0, .int .u8 0] 42)) u) (by kernel_rfl) ((Below.refl _ _).drew) (fun _ => ?_)
    refine takeH_at 0 7 (.pointer (some ⟨g, o, none⟩)) rfl rfl (by kernel_rfl) (by kernel_rfl) (by kernel_rfl) (fun _ _ _ h => h) (hS0) (Or.inl ⟨by rfl, fun w' hS' => by go_simp⟩) ?_
    simp only [List.setIfInBounds_toArray, List.set_cons_zero, List.set_cons_succ]
    refine takeH_at 1 8 (.agg #[.int .u8 (bt0 s.a : Nat), .int .u8 (bt1 s.a : Nat), .int .u8 (bt2 s.a : Nat), .int .u8 (bt3 s.a : Nat), .int .u8 (bt0 s.b : Nat), .int .u8 (bt1 s.b : Nat), .int .u8 (bt2 s.b : Nat), .int .u8 (bt3 s.b : Nat), .int .u8 (bt0 s.c : Nat), .int .u8 (bt1 s.c : Nat), .int .u8 (bt2 s.c : Nat), .int .u8 (bt3 s.c : Nat), .int .u8 (bt0 s.d : Nat), .int .u8 (bt1 s.d : Nat), .int .u8 (bt2 s.d : Nat), .int .u8 (bt3 s.d : Nat)]) rfl rfl (by kernel_rfl) (by kernel_rfl) (by kernel_rfl) (fun _ _ _ h => h) (hS0) (yieldsIf_load_mid (by rfl) 42 (.tmp 3) rfl w.heap.size 0 rfl [.int .u8 (bt0 s.a : Nat), .int .u8 (bt1 s.a : Nat), .int .u8 (bt2 s.a : Nat), .int .u8 (bt3 s.a : Nat), .int .u8 (bt0 s.b : Nat), .int .u8 (bt1 s.b : Nat), .int .u8 (bt2 s.b : Nat), .int .u8 (bt3 s.b : Nat), .int .u8 (bt0 s.c : Nat), .int .u8 (bt1 s.c : Nat), .int .u8 (bt2 s.c : Nat), .int .u8 (bt3 s.c : Nat), .int .u8 (bt0 s.d : Nat), .int .u8 (bt1 s.d : Nat), .int .u8 (bt2 s.d : Nat), .int .u8 (bt3 s.d : Nat)] _ (fun u hu => gl.out u hu) Tryd.underlying42 rfl size42) ?_
    simp only [List.setIfInBounds_toArray, List.set_cons_zero, List.set_cons_succ]
    refine takeH_at 3 10 (.pointer (some ⟨g, o, none⟩)) rfl rfl (by kernel_rfl) (by kernel_rfl) (by kernel_rfl) (fun _ _ _ h => h) (hS0) (Or.inl ⟨by rfl, fun w' hS' => by go_simp⟩) ?_
    simp only [List.setIfInBounds_toArray, List.set_cons_zero, List.set_cons_succ]
    refine takeH_at 4 11 (.pointer (some ⟨g, o, none⟩)) rfl rfl (by kernel_rfl) (by kernel_rfl) (by kernel_rfl) (fun _ _ _ h => h) (hS0) (Or.inl ⟨by rfl, fun w' hS' => by go_simp⟩) ?_
    simp only [List.setIfInBounds_toArray, List.set_cons_zero, List.set_cons_succ]
    refine takeH_at 5 12 (.pointer (some ⟨g, o, none⟩)) rfl rfl (by kernel_rfl) (by kernel_rfl) (by kernel_rfl) (fun _ _ _ h => h) (hS0) (Or.inl ⟨by rfl, fun w' hS' => by go_simp⟩) ?_
    simp only [List.setIfInBounds_toArray, List.set_cons_zero, List.set_cons_succ]
    refine takeH_at 6 13 (.int .i64 (nr : Nat)) rfl rfl (by kernel_rfl) (by kernel_rfl) (by kernel_rfl) (fun _ _ _ h => h) (hS0) (Or.inl ⟨by rfl, fun w' hS' => by have q := gr.out w' hS'; go_simp⟩) ?_
    simp only [List.setIfInBounds_toArray, List.set_cons_zero, List.set_cons_succ]
    refine wpAnyH_ready (rs := [2, 8]) (by kernel_rfl) (by simp) ?_
    refine AllReadyH.cons rfl (fun K hK => ?_) (AllReadyH.cons rfl (fun K hK => ?_) AllReadyH.nil)
    · skip
      go_simp
      refine (HFB.out _).mono ?_
      rintro e1 u1 ⟨rfl, hbu1⟩
      have hSu1 : Below (w.heap.size + 2) ((w.alloc (.cells #[.int .u8 (bt0 s.a : Nat), .int .u8 (bt1 s.a : Nat), .int .u8 (bt2 s.a : Nat), .int .u8 (bt3 s.a : Nat), .int .u8 (bt0 s.b : Nat), .int .u8 (bt1 s.b : Nat), .int .u8 (bt2 s.b : Nat), .int .u8 (bt3 s.b : Nat), .int .u8 (bt0 s.c : Nat), .int .u8 (bt1 s.c : Nat), .int .u8 (bt2 s.c : Nat), .int .u8 (bt3 s.c : Nat), .int .u8 (bt0 s.d : Nat), .int .u8 (bt1 s.d : Nat), .int .u8 (bt2 s.d : Nat), .int .u8 (bt3 s.d : Nat)] 42)).alloc (.cells #[.int .u8 0, .int .u8 0, .int .u8 0, .int .u8 0, .int .u8 0, .int .u8 0, .int .u8 0, .int .u8 0, .int .u8 0, .int .u8 0, .int .u8 0, .int .u8 0, .int .u8 0, .int .u8 0, .int .u8 0, .int .u8 0] 42)) u1 := (hS0).trans (hbu1.mono (Nat.le_trans (Nat.le_of_eq HSZ.out.symm) (hS0).size))
      go_wp2_with fail
      refine hK.out _ _ hSu1 (fun _ => ?_)
      clear hK K
      try simp only [List.setIfInBounds_toArray, List.set_cons_zero, List.set_cons_succ]
      refine wpAnyH_ready (rs := [7, 8]) (by kernel_rfl) (by simp) ?_
      refine AllReadyH.cons rfl (fun K hK => ?_) (AllReadyH.cons rfl (fun K hK => ?_) AllReadyH.nil)
      · skip
        go_simp
        refine (HA0.out _ (HCS.out _ (hSu1))).mono ?_
        rintro e2 u2 ⟨rfl, hbu2⟩
        have hSu2 : Below (w.heap.size + 2) ((w.alloc (.cells #[.int .u8 (bt0 s.a : Nat), .int .u8 (bt1 s.a : Nat), .int .u8 (bt2 s.a : Nat), .int .u8 (bt3 s.a : Nat), .int .u8 (bt0 s.b : Nat), .int .u8 (bt1 s.b : Nat), .int .u8 (bt2 s.b : Nat), .int .u8 (bt3 s.b : Nat), .int .u8 (bt0 s.c : Nat), .int .u8 (bt1 s.c : Nat), .int .u8 (bt2 s.c : Nat), .int .u8 (bt3 s.c : Nat), .int .u8 (bt0 s.d : Nat), .int .u8 (bt1 s.d : Nat), .int .u8 (bt2 s.d : Nat), .int .u8 (bt3 s.d : Nat)] 42)).alloc (.cells #[.int .u8 0, .int .u8 0, .int .u8 0, .int .u8 0, .int .u8 0, .int .u8 0, .int .u8 0, .int .u8 0, .int .u8 0, .int .u8 0, .int .u8 0, .int .u8 0, .int .u8 0, .int .u8 0, .int .u8 0, .int .u8 0] 42)) u2 := (hSu1).trans (hbu2.mono (Nat.le_trans (Nat.le_of_eq HSZ.out.symm) (hSu1).size))
        go_wp2_with fail
        refine hK.out _ _ hSu2 (fun _ => ?_)
        clear hK K
        try simp only [List.setIfInBounds_toArray, List.set_cons_zero, List.set_cons_succ]
        refine wpAnyH_ready (rs := [8]) (by kernel_rfl) (by simp) ?_
        refine AllReadyH.cons rfl (fun K hK => ?_) AllReadyH.nil
        go_simp
        have hSa : Below (w.heap.size + 2) ((w.alloc (.cells #[.int .u8 (bt0 s.a : Nat), .int .u8 (bt1 s.a : Nat), .int .u8 (bt2 s.a : Nat), .int .u8 (bt3 s.a : Nat), .int .u8 (bt0 s.b : Nat), .int .u8 (bt1 s.b : Nat), .int .u8 (bt2 s.b : Nat), .int .u8 (bt3 s.b : Nat), .int .u8 (bt0 s.c : Nat), .int .u8 (bt1 s.c : Nat), .int .u8 (bt2 s.c : Nat), .int .u8 (bt3 s.c : Nat), .int .u8 (bt0 s.d : Nat), .int .u8 (bt1 s.d : Nat), .int .u8 (bt2 s.d : Nat), .int .u8 (bt3 s.d : Nat)] 42)).alloc (.cells #[.int .u8 0, .int .u8 0, .int .u8 0, .int .u8 0, .int .u8 0, .int .u8 0, .int .u8 0, .int .u8 0, .int .u8 0, .int .u8 0, .int .u8 0, .int .u8 0, .int .u8 0, .int .u8 0, .int .u8 0, .int .u8 0] 42)) (World.alloc u2 (.cells #[.int .u32 0, .int .u32 0, .int .u32 0, .int .u32 0] 115)) := (hSu2).alloc (by have h1 := (hSu2).size; have h2 := HSZ.out; omega) _
        refine hK.out _ _ hSa (fun _ => ?_)
        clear hK K
        try simp only [List.setIfInBounds_toArray, List.set_cons_zero, List.set_cons_succ]
        refine wpAnyH_ready (rs := [9]) (by kernel_rfl) (by simp) ?_
        refine AllReadyH.cons rfl (fun K hK => ?_) AllReadyH.nil
        rw [if_pos (by rfl)]
        refine wp_store_mid 115 (.tmp 5) (.tmp 14) rfl _ 0 #[.int .u32 (t0 : Nat), .int .u32 (t1 : Nat), .int .u32 (t2 : Nat), .int .u32 (t3 : Nat)] rfl rfl (there_own u2 #[.int .u32 0, .int .u32 0, .int .u32 0, .int .u32 0] 115 rfl) size115 (by kernel_rfl) ?_
        refine hK.out _ _ (below_setCells _ (by have h1 := hSu2.size; have h2 := HSZ.out; omega) _ _ _ (hSa)) (fun _ => ?_)
        clear hK K
        refine wpAnyH_done (by kernel_rfl) ?_ _
        refine NoPanic.normal ?_
        go_wp2_with fail
        go_meet
        exact ⟨_, rfl, DecAt.mk' (u' := w) H2.out.1 H2.out.2 (hSa) (by have h1 := hSu2.size; have h2 := HSZ.out; omega) (by simp) (there_own u2 #[.int .u32 0, .int .u32 0, .int .u32 0, .int .u32 0] 115 rfl)⟩
      · skip
        go_simp
        have hSa : Below (w.heap.size + 2) ((w.alloc (.cells #[.int .u8 (bt0 s.a : Nat), .int .u8 (bt1 s.a : Nat), .int .u8 (bt2 s.a : Nat), .int .u8 (bt3 s.a : Nat), .int .u8 (bt0 s.b : Nat), .int .u8 (bt1 s.b : Nat), .int .u8 (bt2 s.b : Nat), .int .u8 (bt3 s.b : Nat), .int .u8 (bt0 s.c : Nat), .int .u8 (bt1 s.c : Nat), .int .u8 (bt2 s.c : Nat), .int .u8 (bt3 s.c : Nat), .int .u8 (bt0 s.d : Nat), .int .u8 (bt1 s.d : Nat), .int .u8 (bt2 s.d : Nat), .int .u8 (bt3 s.d : Nat)] 42)).alloc (.cells #[.int .u8 0, .int .u8 0, .int .u8 0, .int .u8 0, .int .u8 0, .int .u8 0, .int .u8 0, .int .u8 0, .int .u8 0, .int .u8 0, .int .u8 0, .int .u8 0, .int .u8 0, .int .u8 0, .int .u8 0, .int .u8 0] 42)) (World.alloc u1 (.cells #[.int .u32 0, .int .u32 0, .int .u32 0, .int .u32 0] 115)) := (hSu1).alloc (by have h1 := (hSu1).size; have h2 := HSZ.out; omega) _
        refine hK.out _ _ hSa (fun _ => ?_)
        clear hK K
        try simp only [List.setIfInBounds_toArray, List.set_cons_zero, List.set_cons_succ]
        refine wpAnyH_ready (rs := [7]) (by kernel_rfl) (by simp) ?_
        refine AllReadyH.cons rfl (fun K hK => ?_) AllReadyH.nil
        go_simp
        refine (HA0.out _ (HCS.out _ (hSa))).mono ?_
        rintro e2 u2 ⟨rfl, hbu2⟩
        have hSu2 : Below (w.heap.size + 2) ((w.alloc (.cells #[.int .u8 (bt0 s.a : Nat), .int .u8 (bt1 s.a : Nat), .int .u8 (bt2 s.a : Nat), .int .u8 (bt3 s.a : Nat), .int .u8 (bt0 s.b : Nat), .int .u8 (bt1 s.b : Nat), .int .u8 (bt2 s.b : Nat), .int .u8 (bt3 s.b : Nat), .int .u8 (bt0 s.c : Nat), .int .u8 (bt1 s.c : Nat), .int .u8 (bt2 s.c : Nat), .int .u8 (bt3 s.c : Nat), .int .u8 (bt0 s.d : Nat), .int .u8 (bt1 s.d : Nat), .int .u8 (bt2 s.d : Nat), .int .u8 (bt3 s.d : Nat)] 42)).alloc (.cells #[.int .u8 0, .int .u8 0, .int .u8 0, .int .u8 0, .int .u8 0, .int .u8 0, .int .u8 0, .int .u8 0, .int .u8 0, .int .u8 0, .int .u8 0, .int .u8 0, .int .u8 0, .int .u8 0, .int .u8 0, .int .u8 0] 42)) u2 := (hSa).trans (hbu2.mono (Nat.le_trans (Nat.le_of_eq HSZ.out.symm) (hSa).size))
        go_wp2_with fail
        refine hK.out _ _ hSu2 (fun _ => ?_)
        clear hK K
        try simp only [List.setIfInBounds_toArray, List.set_cons_zero, List.set_cons_succ]
        refine wpAnyH_ready (rs := [9]) (by kernel_rfl) (by simp) ?_
        refine AllReadyH.cons rfl (fun K hK => ?_) AllReadyH.nil
        rw [if_pos (by rfl)]
        refine wp_store_mid 115 (.tmp 5) (.tmp 14) rfl _ 0 #[.int .u32 (t0 : Nat), .int .u32 (t1 : Nat), .int .u32 (t2 : Nat), .int .u32 (t3 : Nat)] rfl rfl (there_below (there_own u1 #[.int .u32 0, .int .u32 0, .int .u32 0, .int .u32 0] 115 rfl) hbu2 (by simp)) size115 (by kernel_rfl) ?_
        refine hK.out _ _ (below_setCells _ (by have h1 := hSu1.size; have h2 := HSZ.out; omega) _ _ _ (hSu2)) (fun _ => ?_)
        clear hK K
        refine wpAnyH_done (by kernel_rfl) ?_ _
        refine NoPanic.normal ?_
        go_wp2_with fail
        go_meet
        exact ⟨_, rfl, DecAt.mk' (u' := w) H2.out.1 H2.out.2 (hSu2) (by have h1 := hSu1.size; have h2 := HSZ.out; omega) (by have h1 := hbu2.size; simp at h1; omega) (there_below (there_own u1 #[.int .u32 0, .int .u32 0, .int .u32 0, .int .u32 0] 115 rfl) hbu2 (by simp))⟩
    · skip
      go_simp
      have hSa : Below (w.heap.size + 2) ((w.alloc (.cells #[.int .u8 (bt0 s.a : Nat), .int .u8 (bt1 s.a : Nat), .int .u8 (bt2 s.a : Nat), .int .u8 (bt3 s.a : Nat), .int .u8 (bt0 s.b : Nat), .int .u8 (bt1 s.b : Nat), .int .u8 (bt2 s.b : Nat), .int .u8 (bt3 s.b : Nat), .int .u8 (bt0 s.c : Nat), .int .u8 (bt1 s.c : Nat), .int .u8 (bt2 s.c : Nat), .int .u8 (bt3 s.c : Nat), .int .u8 (bt0 s.d : Nat), .int .u8 (bt1 s.d : Nat), .int .u8 (bt2 s.d : Nat), .int .u8 (bt3 s.d : Nat)] 42)).alloc (.cells #[.int .u8 0, .int .u8 0, .int .u8 0, .int .u8 0, .int .u8 0, .int .u8 0, .int .u8 0, .int .u8 0, .int .u8 0, .int .u8 0, .int .u8 0, .int .u8 0, .int .u8 0, .int .u8 0, .int .u8 0, .int .u8 0] 42)) (World.alloc (((w.alloc (.cells #[.int .u8 (bt0 s.a : Nat), .int .u8 (bt1 s.a : Nat), .int .u8 (bt2 s.a : Nat), .int .u8 (bt3 s.a : Nat), .int .u8 (bt0 s.b : Nat), .int .u8 (bt1 s.b : Nat), .int .u8 (bt2 s.b : Nat), .int .u8 (bt3 s.b : Nat), .int .u8 (bt0 s.c : Nat), .int .u8 (bt1 s.c : Nat), .int .u8 (bt2 s.c : Nat), .int .u8 (bt3 s.c : Nat), .int .u8 (bt0 s.d : Nat), .int .u8 (bt1 s.d : Nat), .int .u8 (bt2 s.d : Nat), .int .u8 (bt3 s.d : Nat)] 42)).alloc (.cells #[.int .u8 0, .int .u8 0, .int .u8 0, .int .u8 0, .int .u8 0, .int .u8 0, .int .u8 0, .int .u8 0, .int .u8 0, .int .u8 0, .int .u8 0, .int .u8 0, .int .u8 0, .int .u8 0, .int .u8 0, .int .u8 0] 42))).drew (.cells #[.int .u32 0, .int .u32 0, .int .u32 0, .int .u32 0] 115)) := (hS0).alloc (by simp) _
      refine hK.out _ _ hSa (fun _ => ?_)
      clear hK K
      try simp only [List.setIfInBounds_toArray, List.set_cons_zero, List.set_cons_succ]
      have hown : World.there (World.alloc (((w.alloc (.cells #[.int .u8 (bt0 s.a : Nat), .int .u8 (bt1 s.a : Nat), .int .u8 (bt2 s.a : Nat), .int .u8 (bt3 s.a : Nat), .int .u8 (bt0 s.b : Nat), .int .u8 (bt1 s.b : Nat), .int .u8 (bt2 s.b : Nat), .int .u8 (bt3 s.b : Nat), .int .u8 (bt0 s.c : Nat), .int .u8 (bt1 s.c : Nat), .int .u8 (bt2 s.c : Nat), .int .u8 (bt3 s.c : Nat), .int .u8 (bt0 s.d : Nat), .int .u8 (bt1 s.d : Nat), .int .u8 (bt2 s.d : Nat), .int .u8 (bt3 s.d : Nat)] 42)).alloc (.cells #[.int .u8 0, .int .u8 0, .int .u8 0, .int .u8 0, .int .u8 0, .int .u8 0, .int .u8 0, .int .u8 0, .int .u8 0, .int .u8 0, .int .u8 0, .int .u8 0, .int .u8 0, .int .u8 0, .int .u8 0, .int .u8 0] 42))).drew (.cells #[.int .u32 0, .int .u32 0, .int .u32 0, .int .u32 0] 115)) (w.heap.size + 1 + 1) 0 4 := by have h := there_own (((w.alloc (.cells #[.int .u8 (bt0 s.a : Nat), .int .u8 (bt1 s.a : Nat), .int .u8 (bt2 s.a : Nat), .int .u8 (bt3 s.a : Nat), .int .u8 (bt0 s.b : Nat), .int .u8 (bt1 s.b : Nat), .int .u8 (bt2 s.b : Nat), .int .u8 (bt3 s.b : Nat), .int .u8 (bt0 s.c : Nat), .int .u8 (bt1 s.c : Nat), .int .u8 (bt2 s.c : Nat), .int .u8 (bt3 s.c : Nat), .int .u8 (bt0 s.d : Nat), .int .u8 (bt1 s.d : Nat), .int .u8 (bt2 s.d : Nat), .int .u8 (bt3 s.d : Nat)] 42)).alloc (.cells #[.int .u8 0, .int .u8 0, .int .u8 0, .int .u8 0, .int .u8 0, .int .u8 0, .int .u8 0, .int .u8 0, .int .u8 0, .int .u8 0, .int .u8 0, .int .u8 0, .int .u8 0, .int .u8 0, .int .u8 0, .int .u8 0] 42))).drew #[.int .u32 0, .int .u32 0, .int .u32 0, .int .u32 0] 115 (n := 4) rfl; simpa using h
      refine wpAnyH_ready (rs := [2]) (by kernel_rfl) (by simp) ?_
      refine AllReadyH.cons rfl (fun K hK => ?_) AllReadyH.nil
      go_simp
      refine (HFB.out _).mono ?_
      rintro e1 u1 ⟨rfl, hbu1⟩
      have hSu1 : Below (w.heap.size + 2) ((w.alloc (.cells #[.int .u8 (bt0 s.a : Nat), .int .u8 (bt1 s.a : Nat), .int .u8 (bt2 s.a : Nat), .int .u8 (bt3 s.a : Nat), .int .u8 (bt0 s.b : Nat), .int .u8 (bt1 s.b : Nat), .int .u8 (bt2 s.b : Nat), .int .u8 (bt3 s.b : Nat), .int .u8 (bt0 s.c : Nat), .int .u8 (bt1 s.c : Nat), .int .u8 (bt2 s.c : Nat), .int .u8 (bt3 s.c : Nat), .int .u8 (bt0 s.d : Nat), .int .u8 (bt1 s.d : Nat), .int .u8 (bt2 s.d : Nat), .int .u8 (bt3 s.d : Nat)] 42)).alloc (.cells #[.int .u8 0, .int .u8 0, .int .u8 0, .int .u8 0, .int .u8 0, .int .u8 0, .int .u8 0, .int .u8 0, .int .u8 0, .int .u8 0, .int .u8 0, .int .u8 0, .int .u8 0, .int .u8 0, .int .u8 0, .int .u8 0] 42)) u1 := (hSa).trans (hbu1.mono (Nat.le_trans (Nat.le_of_eq HSZ.out.symm) (hSa).size))
      go_wp2_with fail
      refine hK.out _ _ hSu1 (fun _ => ?_)
      clear hK K
      try simp only [List.setIfInBounds_toArray, List.set_cons_zero, List.set_cons_succ]
      refine wpAnyH_ready (rs := [7]) (by kernel_rfl) (by simp) ?_
      refine AllReadyH.cons rfl (fun K hK => ?_) AllReadyH.nil
      go_simp
      refine (HA0.out _ (HCS.out _ (hSu1))).mono ?_
      rintro e2 u2 ⟨rfl, hbu2⟩
      have hSu2 : Below (w.heap.size + 2) ((w.alloc (.cells #[.int .u8 (bt0 s.a : Nat), .int .u8 (bt1 s.a : Nat), .int .u8 (bt2 s.a : Nat), .int .u8 (bt3 s.a : Nat), .int .u8 (bt0 s.b : Nat), .int .u8 (bt1 s.b : Nat), .int .u8 (bt2 s.b : Nat), .int .u8 (bt3 s.b : Nat), .int .u8 (bt0 s.c : Nat), .int .u8 (bt1 s.c : Nat), .int .u8 (bt2 s.c : Nat), .int .u8 (bt3 s.c : Nat), .int .u8 (bt0 s.d : Nat), .int .u8 (bt1 s.d : Nat), .int .u8 (bt2 s.d : Nat), .int .u8 (bt3 s.d : Nat)] 42)).alloc (.cells #[.int .u8 0, .int .u8 0, .int .u8 0, .int .u8 0, .int .u8 0, .int .u8 0, .int .u8 0, .int .u8 0, .int .u8 0, .int .u8 0, .int .u8 0, .int .u8 0, .int .u8 0, .int .u8 0, .int .u8 0, .int .u8 0] 42)) u2 := (hSu1).trans (hbu2.mono (Nat.le_trans (Nat.le_of_eq HSZ.out.symm) (hSu1).size))
      go_wp2_with fail
      refine hK.out _ _ hSu2 (fun _ => ?_)
      clear hK K
      try simp only [List.setIfInBounds_toArray, List.set_cons_zero, List.set_cons_succ]
      refine wpAnyH_ready (rs := [9]) (by kernel_rfl) (by simp) ?_
      refine AllReadyH.cons rfl (fun K hK => ?_) AllReadyH.nil
      rw [if_pos (by rfl)]
      refine wp_store_mid 115 (.tmp 5) (.tmp 14) rfl _ 0 #[.int .u32 (t0 : Nat), .int .u32 (t1 : Nat), .int .u32 (t2 : Nat), .int .u32 (t3 : Nat)] rfl rfl ((there_below (there_below hown hbu1 (by simp)) hbu2 (by have h3 := hbu1.size; simp at h3; omega))) size115 (by kernel_rfl) ?_
      refine hK.out _ _ (below_setCells _ (by simp) _ _ _ (hSu2)) (fun _ => ?_)
      clear hK K
      refine wpAnyH_done (by kernel_rfl) ?_ _
      refine NoPanic.normal ?_
      go_wp2_with fail
      go_meet
      exact ⟨_, rfl, DecAt.mk' (u' := w) H2.out.1 H2.out.2 (hSu2) (by simp) (by have h1 := hbu2.size; have h3 := hbu1.size; simp at h1 h3; omega) ((there_below (there_below hown hbu1 (by simp)) hbu2 (by have h3 := hbu1.size; simp at h3; omega)))⟩
  case rest =>
    obtain ⟨A, rfl, HD⟩ := hcut
    generalize (.agg #[.int .u8 (bt0 s.a : Nat), .int .u8 (bt1 s.a : Nat), .int .u8 (bt2 s.a : Nat), .int .u8 (bt3 s.a : Nat), .int .u8 (bt0 s.b : Nat), .int .u8 (bt1 s.b : Nat), .int .u8 (bt2 s.b : Nat), .int .u8 (bt3 s.b : Nat), .int .u8 (bt0 s.c : Nat), .int .u8 (bt1 s.c : Nat), .int .u8 (bt2 s.c : Nat), .int .u8 (bt3 s.c : Nat), .int .u8 (bt0 s.d : Nat), .int .u8 (bt1 s.d : Nat), .int .u8 (bt2 s.d : Nat), .int .u8 (bt3 s.d : Nat)] : Value) = bl
    clear HFB HA0 HSZ gr gl HCS H2
    have HCd : Hid (Ciph wc g o nr K) := HC.out.below HD.out.old HC.out.here
    have HgA : Hid (g < A) := by have h1 := HC.out.here; have h2 := HD.out.far; show g < A; omega
    have hrd0 : wc.cell? ⟨g, o, none⟩ = some (.int .i64 (nr : Nat)) := HCd.out.rounds
    go_wp2
    clear hrd0
    go_loopw [6] (fun i wr => ∃ r x0 x1 x2 x3 : Nat, r < nr ∧ i = .int .i64 (r : Nat) ∧ Hid (itD K (nr - 1) ⟨t0, t1, t2, t3⟩ = itD K r ⟨x0, x1, x2, x3⟩) ∧ Hid (Below A wc wr ∧ A < wr.heap.size ∧ wr.rangeAt A 0 [.int .u32 (x0 : Nat), .int .u32 (x1 : Nat), .int .u32 (x2 : Nat), .int .u32 (x3 : Nat)] ∧ wr.there A 0 4)) (fun i _ => (intOf i).toNat)
    case atStart => exact ⟨nr - 1, t0, t1, t2, t3, by omega, val_eq (by omega), (Eq.refl (itD K (nr - 1) ⟨t0, t1, t2, t3⟩)), Below.refl _ _, HD.out.here, HD.out.cells, HD.out.room⟩
    case round =>
      obtain ⟨r, x0, x1, x2, x3, hr, rfl, HX, HW⟩ := hrel
      have HCr : Hid (Ciph wr g o nr K) := HCd.out.below HW.out.1 HgA.out
      cases r with
      | succ r =>
        obtain ⟨⟨m0, m1, m2, m3⟩, HM⟩ : ∃ m, Hid (m = undoS ⟨x0, x1, x2, x3⟩) := ⟨_, rfl⟩
        obtain ⟨⟨n0, n1, n2, n3⟩, HN⟩ : ∃ m, Hid (m = addK K (r + 1) ⟨m0, m1, m2, m3⟩) := ⟨_, rfl⟩
        obtain ⟨⟨y0, y1, y2, y3⟩, HY⟩ : ∃ m, Hid (m = unmS ⟨n0, n1, n2, n3⟩) := ⟨_, rfl⟩
        have HMok : Hid (W4.ok ⟨m0, m1, m2, m3⟩) := by show W4.ok _; rw [HM.out]; exact undoS_ok _
        have hgA1 : g < A + 1 := Nat.lt_succ_of_lt HgA.out
        have k0 : Hid (∀ u, Below (A + 1) wr u → Calls Tryd.prog 68 #[.pointer (some ⟨g, o, none⟩), .int .u32 (x0 : Nat), .int .u32 (x3 : Nat), .int .u32 (x2 : Nat), .int .u32 (x1 : Nat)] u fun e u' => e = .returned (.int .u32 (m0 : Nat)) ∧ Below (A + 1) wr u') := undo_c HCr.out hgA1 x0 x3 x2 x1 m0 (congrArg W4.a HM.out)
        have k1 : Hid (∀ u, Below (A + 1) wr u → Calls Tryd.prog 68 #[.pointer (some ⟨g, o, none⟩), .int .u32 (x1 : Nat), .int .u32 (x0 : Nat), .int .u32 (x3 : Nat), .int .u32 (x2 : Nat)] u fun e u' => e = .returned (.int .u32 (m1 : Nat)) ∧ Below (A + 1) wr u') := undo_c HCr.out hgA1 x1 x0 x3 x2 m1 (congrArg W4.b HM.out)
        have k2 : Hid (∀ u, Below (A + 1) wr u → Calls Tryd.prog 68 #[.pointer (some ⟨g, o, none⟩), .int .u32 (x2 : Nat), .int .u32 (x1 : Nat), .int .u32 (x0 : Nat), .int .u32 (x3 : Nat)] u fun e u' => e = .returned (.int .u32 (m2 : Nat)) ∧ Below (A + 1) wr u') := undo_c HCr.out hgA1 x2 x1 x0 x3 m2 (congrArg W4.c HM.out)
        have k3 : Hid (∀ u, Below (A + 1) wr u → Calls Tryd.prog 68 #[.pointer (some ⟨g, o, none⟩), .int .u32 (x3 : Nat), .int .u32 (x2 : Nat), .int .u32 (x1 : Nat), .int .u32 (x0 : Nat)] u fun e u' => e = .returned (.int .u32 (m3 : Nat)) ∧ Below (A + 1) wr u') := undo_c HCr.out hgA1 x3 x2 x1 x0 m3 (congrArg W4.d HM.out)
        have ka : Hid (∀ u, Below (A + 1) wr u → Calls Tryd.prog 63 #[.pointer (some ⟨g, o, none⟩), .agg #[.int .u32 (m0 : Nat), .int .u32 (m1 : Nat), .int .u32 (m2 : Nat), .int .u32 (m3 : Nat)], .int .i64 ((r + 1 : Nat) : Int)] u fun e u' => e = .returned (.agg #[.int .u32 (n0 : Nat), .int .u32 (n1 : Nat), .int .u32 (n2 : Nat), .int .u32 (n3 : Nat)]) ∧ Below (A + 1) wr u') := add_c HCr.out hgA1 HW.out.2.1 (r + 1) (Nat.le_of_lt hr) ⟨m0, m1, m2, m3⟩ ⟨n0, n1, n2, n3⟩ HMok.out HN.out
        have g0 : Hid (∀ u, Below (A + 1) wr u → u.cell? ⟨A, 0, none⟩ = some (.int .u32 (x0 : Nat))) := fun u hu => (hu.cell (Nat.lt_succ_self A)).trans (range4 HW.out.2.2.1).1
        have g1 : Hid (∀ u, Below (A + 1) wr u → u.cell? ⟨A, 1, none⟩ = some (.int .u32 (x1 : Nat))) := fun u hu => (hu.cell (Nat.lt_succ_self A)).trans (range4 HW.out.2.2.1).2.1
        have g2 : Hid (∀ u, Below (A + 1) wr u → u.cell? ⟨A, 2, none⟩ = some (.int .u32 (x2 : Nat))) := fun u hu => (hu.cell (Nat.lt_succ_self A)).trans (range4 HW.out.2.2.1).2.2.1
        have g3 : Hid (∀ u, Below (A + 1) wr u → u.cell? ⟨A, 3, none⟩ = some (.int .u32 (x3 : Nat))) := fun u hu => (hu.cell (Nat.lt_succ_self A)).trans (range4 HW.out.2.2.1).2.2.2
        clear hgA1
        obtain ⟨r1, hr1⟩ : ∃ r1 : Nat, r1 = r + 1 := ⟨_, rfl⟩
        rw [← hr1] at ka ⊢
        have hpos : (0 : Int) < (r1 : Int) := by omega
        have HR1 : Hid (r1 = r + 1) := hr1
        clear hr1
        go_upto_region 5 with fail
        refine dec_r5 _ _ _ _ _ _ _ _ _ _ _ _ _ _ _ _ _ _ _ _ _ _ _ _ _ _ _ _ _ _ _ _ _ _ _ _ _ _ _ _ _ _ _ _ _ _ _ _ _ _ _ _ _ _ _ _ _ _ _ _ _ _ _ _ _ _ _ _ _ _ _ _ _ _ _ _ _ _ _ _ _ _ _ _ _ _ _ _ _ _ _ _ _ _ _ _ _ _ _ _ _ _ _ _ _ _ _ _ _ _ _ _ _ _ _ _ _ _ _ _ _ _ _ _ _ _ g o A r1 x0 x1 x2 x3 m0 m1 m2 m3 n0 n1 n2 n3 wr k0 k1 k2 k3 ka g0 g1 g2 g3 HW.out.2.2.2 (fun u4 hu4 => ?_)
        have Hw5 : Hid (Below A wc (u4.setCells A 0 [.int .u32 (n0 : Nat), .int .u32 (n1 : Nat), .int .u32 (n2 : Nat), .int .u32 (n3 : Nat)]) ∧ A < (u4.setCells A 0 [.int .u32 (n0 : Nat), .int .u32 (n1 : Nat), .int .u32 (n2 : Nat), .int .u32 (n3 : Nat)]).heap.size ∧ (u4.setCells A 0 [.int .u32 (n0 : Nat), .int .u32 (n1 : Nat), .int .u32 (n2 : Nat), .int .u32 (n3 : Nat)]).rangeAt A 0 [.int .u32 (n0 : Nat), .int .u32 (n1 : Nat), .int .u32 (n2 : Nat), .int .u32 (n3 : Nat)] ∧ (u4.setCells A 0 [.int .u32 (n0 : Nat), .int .u32 (n1 : Nat), .int .u32 (n2 : Nat), .int .u32 (n3 : Nat)]).there A 0 4) := by
          obtain ⟨p1, p2, p3, p4⟩ := HW.out
          have ht4 := there_below p4 hu4 (Nat.lt_succ_self A)
          refine ⟨below_setCells A (Nat.le_refl _) _ _ _ (p1.trans (hu4.mono (Nat.le_succ A))), ?_, World.rangeAt_setCells_same _ _ _ _ ht4, World.there_setCells ht4 _ _ _⟩
          rw [size_setCells]
          exact Nat.lt_of_lt_of_le p2 hu4.size
        generalize u4.setCells A 0 [.int .u32 (n0 : Nat), .int .u32 (n1 : Nat), .int .u32 (n2 : Nat), .int .u32 (n3 : Nat)] = w5 at Hw5 ⊢
        clear hu4 k0 k1 k2 k3 ka g0 g1 g2 g3
        have HC5 : Hid (Ciph w5 g o nr K) := HCd.out.below Hw5.out.1 HgA.out
        have hgA1 : g < A + 1 := Nat.lt_succ_of_lt HgA.out
        have k0 : Hid (∀ u, Below (A + 1) w5 u → Calls Tryd.prog 69 #[.pointer (some ⟨g, o, none⟩), .int .u32 (n0 : Nat)] u fun e u' => e = .returned (.int .u32 (y0 : Nat)) ∧ Below (A + 1) w5 u') := unmix_c HC5.out hgA1 n0 y0 (congrArg W4.a HY.out)
        have k1 : Hid (∀ u, Below (A + 1) w5 u → Calls Tryd.prog 69 #[.pointer (some ⟨g, o, none⟩), .int .u32 (n1 : Nat)] u fun e u' => e = .returned (.int .u32 (y1 : Nat)) ∧ Below (A + 1) w5 u') := unmix_c HC5.out hgA1 n1 y1 (congrArg W4.b HY.out)
        have k2 : Hid (∀ u, Below (A + 1) w5 u → Calls Tryd.prog 69 #[.pointer (some ⟨g, o, none⟩), .int .u32 (n2 : Nat)] u fun e u' => e = .returned (.int .u32 (y2 : Nat)) ∧ Below (A + 1) w5 u') := unmix_c HC5.out hgA1 n2 y2 (congrArg W4.c HY.out)
        have k3 : Hid (∀ u, Below (A + 1) w5 u → Calls Tryd.prog 69 #[.pointer (some ⟨g, o, none⟩), .int .u32 (n3 : Nat)] u fun e u' => e = .returned (.int .u32 (y3 : Nat)) ∧ Below (A + 1) w5 u') := unmix_c HC5.out hgA1 n3 y3 (congrArg W4.d HY.out)
        have g0 : Hid (∀ u, Below (A + 1) w5 u → u.cell? ⟨A, 0, none⟩ = some (.int .u32 (n0 : Nat))) := fun u hu => (hu.cell (Nat.lt_succ_self A)).trans (range4 Hw5.out.2.2.1).1
        have g1 : Hid (∀ u, Below (A + 1) w5 u → u.cell? ⟨A, 1, none⟩ = some (.int .u32 (n1 : Nat))) := fun u hu => (hu.cell (Nat.lt_succ_self A)).trans (range4 Hw5.out.2.2.1).2.1
        have g2 : Hid (∀ u, Below (A + 1) w5 u → u.cell? ⟨A, 2, none⟩ = some (.int .u32 (n2 : Nat))) := fun u hu => (hu.cell (Nat.lt_succ_self A)).trans (range4 Hw5.out.2.2.1).2.2.1
        have g3 : Hid (∀ u, Below (A + 1) w5 u → u.cell? ⟨A, 3, none⟩ = some (.int .u32 (n3 : Nat))) := fun u hu => (hu.cell (Nat.lt_succ_self A)).trans (range4 Hw5.out.2.2.1).2.2.2
        clear hgA1
        go_upto_region 6 with fail
        refine dec_r6 _ _ _ _ _ _ _ _ _ _ _ _ _ _ _ _ _ _ _ _ _ _ _ _ _ _ _ _ _ _ _ _ _ _ _ _ _ _ _ _ _ _ _ _ _ _ _ _ _ _ _ _ _ _ _ _ _ _ _ _ _ _ _ _ _ _ _ _ _ _ _ _ _ _ _ _ _ _ _ _ _ _ _ _ _ _ _ _ _ _ _ _ _ _ _ _ _ _ _ _ _ _ _ _ _ _ _ _ _ _ _ _ _ _ _ _ _ _ _ _ _ _ _ _ _ _ _ g o A n0 n1 n2 n3 y0 y1 y2 y3 w5 k0 k1 k2 k3 g0 g1 g2 g3 Hw5.out.2.2.2 (fun v3 hv3 => ?_)
        have Hw6 : Hid (Below A wc (v3.setCells A 0 [.int .u32 (y0 : Nat), .int .u32 (y1 : Nat), .int .u32 (y2 : Nat), .int .u32 (y3 : Nat)]) ∧ A < (v3.setCells A 0 [.int .u32 (y0 : Nat), .int .u32 (y1 : Nat), .int .u32 (y2 : Nat), .int .u32 (y3 : Nat)]).heap.size ∧ (v3.setCells A 0 [.int .u32 (y0 : Nat), .int .u32 (y1 : Nat), .int .u32 (y2 : Nat), .int .u32 (y3 : Nat)]).rangeAt A 0 [.int .u32 (y0 : Nat), .int .u32 (y1 : Nat), .int .u32 (y2 : Nat), .int .u32 (y3 : Nat)] ∧ (v3.setCells A 0 [.int .u32 (y0 : Nat), .int .u32 (y1 : Nat), .int .u32 (y2 : Nat), .int .u32 (y3 : Nat)]).there A 0 4) := by
          obtain ⟨p1, p2, p3, p4⟩ := Hw5.out
          have ht4 := there_below p4 hv3 (Nat.lt_succ_self A)
          refine ⟨below_setCells A (Nat.le_refl _) _ _ _ (p1.trans (hv3.mono (Nat.le_succ A))), ?_, World.rangeAt_setCells_same _ _ _ _ ht4, World.there_setCells ht4 _ _ _⟩
          rw [size_setCells]
          exact Nat.lt_of_lt_of_le p2 hv3.size
        generalize v3.setCells A 0 [.int .u32 (y0 : Nat), .int .u32 (y1 : Nat), .int .u32 (y2 : Nat), .int .u32 (y3 : Nat)] = w6 at Hw6 ⊢
        clear hv3 k0 k1 k2 k3 g0 g1 g2 g3
        go_wp2
        refine ⟨⟨r, y0, y1, y2, y3, by omega, val_eq (by have := HR1.out; unfold wrap64; omega), ?_, Hw6.out⟩, ?_⟩
        · show _ = _
          rw [HX.out, HY.out, HN.out, HM.out, itD_succ, stepD]
        · have := HR1.out; simp only [intOf]; unfold wrap64; omega
      | zero =>
        obtain ⟨⟨m0, m1, m2, m3⟩, HM⟩ : ∃ m, Hid (m = undoS ⟨x0, x1, x2, x3⟩) := ⟨_, rfl⟩
        obtain ⟨⟨n0, n1, n2, n3⟩, HN⟩ : ∃ m, Hid (m = addK K 0 ⟨m0, m1, m2, m3⟩) := ⟨_, rfl⟩
        have HMok : Hid (W4.ok ⟨m0, m1, m2, m3⟩) := by show W4.ok _; rw [HM.out]; exact undoS_ok _
        have hgA1 : g < A + 1 := Nat.lt_succ_of_lt HgA.out
        have k0 : Hid (∀ u, Below (A + 1) wr u → Calls Tryd.prog 68 #[.pointer (some ⟨g, o, none⟩), .int .u32 (x0 : Nat), .int .u32 (x3 : Nat), .int .u32 (x2 : Nat), .int .u32 (x1 : Nat)] u fun e u' => e = .returned (.int .u32 (m0 : Nat)) ∧ Below (A + 1) wr u') := undo_c HCr.out hgA1 x0 x3 x2 x1 m0 (congrArg W4.a HM.out)
        have k1 : Hid (∀ u, Below (A + 1) wr u → Calls Tryd.prog 68 #[.pointer (some ⟨g, o, none⟩), .int .u32 (x1 : Nat), .int .u32 (x0 : Nat), .int .u32 (x3 : Nat), .int .u32 (x2 : Nat)] u fun e u' => e = .returned (.int .u32 (m1 : Nat)) ∧ Below (A + 1) wr u') := undo_c HCr.out hgA1 x1 x0 x3 x2 m1 (congrArg W4.b HM.out)
        have k2 : Hid (∀ u, Below (A + 1) wr u → Calls Tryd.prog 68 #[.pointer (some ⟨g, o, none⟩), .int .u32 (x2 : Nat), .int .u32 (x1 : Nat), .int .u32 (x0 : Nat), .int .u32 (x3 : Nat)] u fun e u' => e = .returned (.int .u32 (m2 : Nat)) ∧ Below (A + 1) wr u') := undo_c HCr.out hgA1 x2 x1 x0 x3 m2 (congrArg W4.c HM.out)
        have k3 : Hid (∀ u, Below (A + 1) wr u → Calls Tryd.prog 68 #[.pointer (some ⟨g, o, none⟩), .int .u32 (x3 : Nat), .int .u32 (x2 : Nat), .int .u32 (x1 : Nat), .int .u32 (x0 : Nat)] u fun e u' => e = .returned (.int .u32 (m3 : Nat)) ∧ Below (A + 1) wr u') := undo_c HCr.out hgA1 x3 x2 x1 x0 m3 (congrArg W4.d HM.out)
        have ka : Hid (∀ u, Below (A + 1) wr u → Calls Tryd.prog 63 #[.pointer (some ⟨g, o, none⟩), .agg #[.int .u32 (m0 : Nat), .int .u32 (m1 : Nat), .int .u32 (m2 : Nat), .int .u32 (m3 : Nat)], .int .i64 0] u fun e u' => e = .returned (.agg #[.int .u32 (n0 : Nat), .int .u32 (n1 : Nat), .int .u32 (n2 : Nat), .int .u32 (n3 : Nat)]) ∧ Below (A + 1) wr u') := add_c HCr.out hgA1 HW.out.2.1 0 (Nat.zero_le _) ⟨m0, m1, m2, m3⟩ ⟨n0, n1, n2, n3⟩ HMok.out HN.out
        have kt : Hid (∀ u, Calls Tryd.prog 66 #[.agg #[.int .u32 (n0 : Nat), .int .u32 (n1 : Nat), .int .u32 (n2 : Nat), .int .u32 (n3 : Nat)]] u fun e u' => e = .returned (.agg #[.int .u8 (bt0 n0 : Nat), .int .u8 (bt1 n0 : Nat), .int .u8 (bt2 n0 : Nat), .int .u8 (bt3 n0 : Nat), .int .u8 (bt0 n1 : Nat), .int .u8 (bt1 n1 : Nat), .int .u8 (bt2 n1 : Nat), .int .u8 (bt3 n1 : Nat), .int .u8 (bt0 n2 : Nat), .int .u8 (bt1 n2 : Nat), .int .u8 (bt2 n2 : Nat), .int .u8 (bt3 n2 : Nat), .int .u8 (bt0 n3 : Nat), .int .u8 (bt1 n3 : Nat), .int .u8 (bt2 n3 : Nat), .int .u8 (bt3 n3 : Nat)]) ∧ Below u.heap.size u u') := to_c ⟨n0, n1, n2, n3⟩
        have g0 : Hid (∀ u, Below (A + 1) wr u → u.cell? ⟨A, 0, none⟩ = some (.int .u32 (x0 : Nat))) := fun u hu => (hu.cell (Nat.lt_succ_self A)).trans (range4 HW.out.2.2.1).1
        have g1 : Hid (∀ u, Below (A + 1) wr u → u.cell? ⟨A, 1, none⟩ = some (.int .u32 (x1 : Nat))) := fun u hu => (hu.cell (Nat.lt_succ_self A)).trans (range4 HW.out.2.2.1).2.1
        have g2 : Hid (∀ u, Below (A + 1) wr u → u.cell? ⟨A, 2, none⟩ = some (.int .u32 (x2 : Nat))) := fun u hu => (hu.cell (Nat.lt_succ_self A)).trans (range4 HW.out.2.2.1).2.2.1
        have g3 : Hid (∀ u, Below (A + 1) wr u → u.cell? ⟨A, 3, none⟩ = some (.int .u32 (x3 : Nat))) := fun u hu => (hu.cell (Nat.lt_succ_self A)).trans (range4 HW.out.2.2.1).2.2.2
        clear hgA1
        go_wp2
        have HT5 : Hid (∀ u4 u5, Below (A + 1) wr u4 → Below u4.heap.size u4 u5 → u5.there (w.heap.size + 1) 0 16 ∧ Below w.heap.size w u5) := fun u4 u5 hu4 hu5 => by
          obtain ⟨p1, p2, p3, p4⟩ := HW.out
          have hA := HD.out.far
          have hs4 := hu4.size
          have e1 := there_below HD.out.res p1 (by omega)
          have e2 := there_below e1 hu4 (by omega)
          exact ⟨there_below e2 hu5 (by omega), ((HD.out.old.trans (p1.mono (by omega))).trans (hu4.mono (by omega))).trans (hu5.mono (by omega))⟩
        refine dec_r7 _ _ _ _ _ _ _ _ _ _ _ _ _ _ _ _ _ _ _ _ _ _ _ _ _ _ _ _ _ _ _ _ _ _ _ _ _ _ _ _ _ _ _ _ _ _ _ _ _ _ _ _ _ _ _ _ _ _ _ _ _ _ _ _ _ _ _ _ _ _ _ _ _ _ _ _ _ _ _ _ _ _ _ _ _ _ _ _ _ _ _ _ _ _ _ _ _ _ _ _ _ _ _ _ _ _ _ _ _ _ _ _ _ _ _ _ _ _ _ _ _ _ _ _ _ _ g o A (w.heap.size + 1) x0 x1 x2 x3 m0 m1 m2 m3 n0 n1 n2 n3 wr k0 k1 k2 k3 ka kt g0 g1 g2 g3 (fun u4 u5 h4 h5 => (HT5.out u4 u5 h4 h5).1) (fun u4 u5 hu4 hu5 => ?_)
        have HR : Hid ((u5.setCells (w.heap.size + 1) 0 [.int .u8 (bt0 n0 : Nat), .int .u8 (bt1 n0 : Nat), .int .u8 (bt2 n0 : Nat), .int .u8 (bt3 n0 : Nat), .int .u8 (bt0 n1 : Nat), .int .u8 (bt1 n1 : Nat), .int .u8 (bt2 n1 : Nat), .int .u8 (bt3 n1 : Nat), .int .u8 (bt0 n2 : Nat), .int .u8 (bt1 n2 : Nat), .int .u8 (bt2 n2 : Nat), .int .u8 (bt3 n2 : Nat), .int .u8 (bt0 n3 : Nat), .int .u8 (bt1 n3 : Nat), .int .u8 (bt2 n3 : Nat), .int .u8 (bt3 n3 : Nat)]).rangeAt (w.heap.size + 1) 0 [.int .u8 (bt0 n0 : Nat), .int .u8 (bt1 n0 : Nat), .int .u8 (bt2 n0 : Nat), .int .u8 (bt3 n0 : Nat), .int .u8 (bt0 n1 : Nat), .int .u8 (bt1 n1 : Nat), .int .u8 (bt2 n1 : Nat), .int .u8 (bt3 n1 : Nat), .int .u8 (bt0 n2 : Nat), .int .u8 (bt1 n2 : Nat), .int .u8 (bt2 n2 : Nat), .int .u8 (bt3 n2 : Nat), .int .u8 (bt0 n3 : Nat), .int .u8 (bt1 n3 : Nat), .int .u8 (bt2 n3 : Nat), .int .u8 (bt3 n3 : Nat)] ∧ Below w.heap.size w (u5.setCells (w.heap.size + 1) 0 [.int .u8 (bt0 n0 : Nat), .int .u8 (bt1 n0 : Nat), .int .u8 (bt2 n0 : Nat), .int .u8 (bt3 n0 : Nat), .int .u8 (bt0 n1 : Nat), .int .u8 (bt1 n1 : Nat), .int .u8 (bt2 n1 : Nat), .int .u8 (bt3 n1 : Nat), .int .u8 (bt0 n2 : Nat), .int .u8 (bt1 n2 : Nat), .int .u8 (bt2 n2 : Nat), .int .u8 (bt3 n2 : Nat), .int .u8 (bt0 n3 : Nat), .int .u8 (bt1 n3 : Nat), .int .u8 (bt2 n3 : Nat), .int .u8 (bt3 n3 : Nat)])) :=
          ⟨World.rangeAt_setCells_same _ _ _ _ (HT5.out u4 u5 hu4 hu5).1, below_setCells _ (Nat.le_succ _) _ _ _ (HT5.out u4 u5 hu4 hu5).2⟩
        generalize u5.setCells (w.heap.size + 1) 0 [.int .u8 (bt0 n0 : Nat), .int .u8 (bt1 n0 : Nat), .int .u8 (bt2 n0 : Nat), .int .u8 (bt3 n0 : Nat), .int .u8 (bt0 n1 : Nat), .int .u8 (bt1 n1 : Nat), .int .u8 (bt2 n1 : Nat), .int .u8 (bt3 n1 : Nat), .int .u8 (bt0 n2 : Nat), .int .u8 (bt1 n2 : Nat), .int .u8 (bt2 n2 : Nat), .int .u8 (bt3 n2 : Nat), .int .u8 (bt0 n3 : Nat), .int .u8 (bt1 n3 : Nat), .int .u8 (bt2 n3 : Nat), .int .u8 (bt3 n3 : Nat)] = w6 at HR ⊢
        have HE : Hid ((⟨n0, n1, n2, n3⟩ : W4) = dcW nr K s) := by
          show _ = _
          have h := HX.out
          rw [HT.out] at h
          rw [HN.out, HM.out, dcW, h, itD_zero]
        clear hu4 hu5 k0 k1 k2 k3 ka kt g0 g1 g2 g3
        go_wp2
        refine ret_array [.int .u8 (bt0 n0 : Nat), .int .u8 (bt1 n0 : Nat), .int .u8 (bt2 n0 : Nat), .int .u8 (bt3 n0 : Nat), .int .u8 (bt0 n1 : Nat), .int .u8 (bt1 n1 : Nat), .int .u8 (bt2 n1 : Nat), .int .u8 (bt3 n1 : Nat), .int .u8 (bt0 n2 : Nat), .int .u8 (bt1 n2 : Nat), .int .u8 (bt2 n2 : Nat), .int .u8 (bt3 n2 : Nat), .int .u8 (bt0 n3 : Nat), .int .u8 (bt1 n3 : Nat), .int .u8 (bt2 n3 : Nat), .int .u8 (bt3 n3 : Nat)] Tryd.results44 rfl HR.out.1 Tryd.underlying42 rfl size42 ⟨?_, HR.out.2⟩
        rw [← HE.out]
        exact rfl
end Go.Proofs.YtgmfiljjogdccaaDoor
namespace Go.Proofs.YtgmfiljjogdccaaDoor
open Go.RowKit
set_option linter.unusedVariables false
/-- What unwrapping begins with: A and the halves behind it. -/
def un0 (f : Nat → Nat) : Nat × (Nat → Nat) := (numK f 8, halfs (fun i => f (8 + i)))
theorem un0_ok {f : Nat → Nat} (hf : ∀ i, f i < 256) : Rok (un0 f) := by
  have h := numK_lt hf 8
  rw [show (256 : Nat) ^ 8 = 18446744073709551616 by decide] at h
  refine ⟨h, ?_⟩
  intro i
  show halfs (fun i => f (8 + i)) i < _
  exact halfs_lt (f := fun i => f (8 + i)) (fun i => hf _) i
set_option maxHeartbeats 1600000 in
set_option maxRecDepth 100000 in
theorem unwrap_ok (g o nr n b po cap : Nat) (K : Nat → Nat) (f : Nat → Nat) (w : World) (hC : Ciph w g o nr K) (hn : 1 ≤ n) (hm : n ≤ 1048576) (hcap : 8 + 8 * n ≤ cap) (hb : b < w.heap.size) (hp : ∀ i, i < 8 + 8 * n → w.cell? ⟨b, po + i, none⟩ = some (.int .u8 (f i : Nat))) (hf : ∀ i, f i < 256) :
    Calls Tryd.prog 51 #[.pointer (some ⟨g, o, none⟩), .slice (some ⟨b, po, none⟩) (8 + 8 * n) cap] w fun e w' => e = .returned (.tuple #[.slice (some ⟨w.heap.size, 0, none⟩) (8 * n) (8 * n), .int .u64 ((aft (unStep nr K n) (6 * n) (un0 f)).1 : Nat)]) ∧ Halves w' w.heap.size 0 n (aft (unStep nr K n) (6 * n) (un0 f)).2 ∧ Below w.heap.size w w' := by
  obtain ⟨i0, hi, hz0, hz1, hz2⟩ := info_parts Tryd.info5
  have HP : Hid (∀ i, i < 8 + 8 * n → w.cell? ⟨b, po + i, none⟩ = some (.int .u8 (f i : Nat))) := hp
  have HF : Hid (∀ i, f i < 256) := hf
  have HC : Hid (Ciph w g o nr K) := hC
  have HBB : Hid (b < w.heap.size) := hb
  obtain ⟨c8, rfl⟩ : ∃ c, cap = c + 8 := ⟨cap - 8, by omega⟩
  obtain ⟨q, HQ⟩ : ∃ q, Hid (q = 8 * n) := ⟨_, rfl⟩
  have hqi : (8 : Int) * (n : Nat) = (q : Nat) := by have := HQ.out; omega
  obtain ⟨m, HM⟩ : ∃ m, Hid (m = 8 + q) := ⟨_, rfl⟩
  rw [← HQ.out, ← HM.out] at hcap
  rw [← HQ.out, ← HM.out]
  obtain ⟨n1, HN1⟩ : ∃ n1, Hid (n1 = n + 1) := ⟨_, rfl⟩
  have hmd : ((m : Nat) : Int) / 8 = (n1 : Nat) := by have := HM.out; have := HQ.out; have := HN1.out; omega
  have hn1 : ((n1 : Nat) : Int) - 1 = (n : Nat) := by have := HN1.out; omega
  have hml : m ≤ 8388616 := by have := HM.out; have := HQ.out; omega
  have hql : q ≤ 8388608 := by have := HQ.out; omega
  have hm8 : 8 ≤ m := by have := HM.out; omega
  have hqm : m - 8 = q := by have := HM.out; omega
  obtain ⟨CS, HCS⟩ : ∃ cs, Hid (cs = (List.range (8 * n)).map fun i => Value.int .u8 (f (8 + i) : Nat)) := ⟨_, rfl⟩
  have HCL : Hid (CS.length = q) := by show _ = _; rw [HCS.out, HQ.out]; simp
  clear hp hf hC hb
  go_enter Tryd.func51, Tryd.ntmps51
  go_wp2_with (first
    | (at_make; go_must (refine wpList_make_full _ rfl _ _ 22 rfl w.heap.size 5 i0 (.int .u8 0) 1 Tryd.underlying22 hi hz0 hz1 .i64 .i64 (q : Nat) (q : Nat) q rfl rfl rfl rfl ?_ ?_ ?_ ?_)))
  · rw [hz2]; omega
  · unfold maxLen; omega
  · exact Nat.le_refl _
  intro w1 hown hgr
  have HB1 : Hid (Below w.heap.size w w1) := (Below.refl _ _).grown hgr (Nat.le_refl _) (by intro k hk; cases hk)
  obtain ⟨cur, HG, HZ⟩ : ∃ cur : Array Value, Hid (w1.heap[w.heap.size]? = some (.cells cur 5 (0, 0))) ∧ Hid (cur.size = q) := by
    obtain ⟨_, ⟨h, _⟩ | ⟨g', c', cur, h, _, h2, _, _, h5, _⟩⟩ := hown
    · cases h
    · cases h; exact ⟨cur, h2, by show _ = _; omega⟩
  clear hown hgr
  obtain ⟨w2, HW2⟩ : ∃ w2, Hid (w2 = w1.setRow w.heap.size (cur.toList.take 0 ++ (CS ++ cur.toList.drop (0 + CS.length))).toArray) := ⟨_, rfl⟩
  have hcp : Sem.run Tryd.prog (Builtin.copy_ #[22, 22] 3 #[.slice (some ⟨w.heap.size, 0, none⟩) q q, .slice (some ⟨b, po + 8, none⟩) q c8]) w1 = .ok (.int .i64 (q : Nat)) w2 := by
    have h := run_copy_row (P := Tryd.prog) w1 22 22 3 5 w.heap.size 0 q q ⟨b, po + 8, none⟩ q c8 cur 5 CS Tryd.underlying22 (by rw [hi]; simp [hz1]) HG.out (by rw [HCL.out]; exact (Nat.min_self q).symm) (by
      intro j v hv
      rw [HCS.out] at hv
      simp at hv
      obtain ⟨j', h1, rfl⟩ := hv
      obtain ⟨h2, h3⟩ := List.getElem?_eq_some_iff.1 h1
      simp at h2 h3
      subst h3
      rw [Addr.add_mid, HB1.out.cell HBB.out, Nat.add_assoc]
      exact HP.out (8 + j) (by omega)) (by rw [HCL.out, HZ.out]; omega) (by
      intro v hv
      rw [HCS.out] at hv
      simp at hv
      obtain ⟨j, _, rfl⟩ := hv
      rfl)
    rw [HW2.out]
    rw [HCL.out] at h ⊢
    rw [List.append_assoc] at h
    exact h
  have HH : Hid (Halves w2 w.heap.size 0 n (un0 f).2) := by show Halves _ _ _ _ _; rw [HW2.out]; exact halves_copied cur (fun i => f (8 + i)) (fun i => HF.out _) CS HCS.out (by rw [HZ.out, HQ.out]; omega) HG.out
  have HB2 : Hid (Below w.heap.size w w2) := by show Below _ _ _; rw [HW2.out]; exact below_setRow HB1.out (Nat.le_refl _) _
  obtain ⟨A0, HA0⟩ : ∃ x, Hid (x = numK f 8) := ⟨_, rfl⟩
  have KN0 : Hid (Calls Tryd.prog 73 #[.slice (some ⟨b, po, none⟩) m (c8 + 8)] w2 fun e w' => e = .returned (.int .u64 (A0 : Nat)) ∧ w' = w2) := by
    rw [HA0.out]
    exact number_ok b po m (c8 + 8) f w2 hm8 hcap (fun i hi => (HB2.out.cell HBB.out).trans (HP.out i (by omega))) HF.out
  clear HG HZ HB1 HP HBB
  go_wp2_with (first | (go_at_call 73; refine KN0.out.mono ?_))
  rintro e0 w2' ⟨rfl, rfl⟩
  go_wp2
  go_loopw [8, 9] (fun a i wr => ∃ (k A : Nat) (z : Int) (R : Nat → Nat), k ≤ 6 * n ∧ z + 1 = (k : Nat) ∧ i = .int .i64 z ∧ a = .int .u64 (A : Nat) ∧ Hid (aft (unStep nr K n) k (A, R) = aft (unStep nr K n) (6 * n) (un0 f)) ∧ Hid (Rok (A, R)) ∧ Hid (Halves wr w.heap.size 0 n R) ∧ Hid (Below w.heap.size w wr)) (fun _ i _ => (intOf i + 1).toNat)
  case atStart =>
    refine ⟨6 * n, A0, _, (un0 f).2, Nat.le_refl _, ?_, rfl, rfl, ?_, ?_, HH, HB2⟩
    · omega
    · show _ = _; rw [HA0.out]; rfl
    · show Rok _; rw [HA0.out]; exact un0_ok HF.out
  case round =>
    obtain ⟨k, A, z, R, hk, hz, rfl, rfl, HA, HW, HH3, HB3⟩ := hrel
    clear HH HB2 hcp KN0
    have HAl : Hid (A < 18446744073709551616) := HW.out.1
    by_cases hlt : 0 < k
    · obtain ⟨k, rfl⟩ : ∃ k', k = k' + 1 := ⟨k - 1, by omega⟩
      obtain rfl : z = (k : Nat) := by omega
      clear hz
      have hk6 : k < 6291456 := by omega
      obtain ⟨i, HI⟩ : ∃ i, Hid (i = k % n) := ⟨_, rfl⟩
      have hil : i < n := by rw [HI.out]; exact Nat.mod_lt _ (by omega)
      have hmod : ((k : Nat) : Int) % ((n : Nat) : Int) = (i : Nat) := by rw [HI.out]; simp
      obtain ⟨j, HJ⟩ : ∃ j, Hid (j = 8 * i) := ⟨_, rfl⟩
      have hji : (8 : Int) * (i : Nat) = (j : Nat) := by have := HJ.out; omega
      have hjq : j + 8 ≤ q := by have h1 := HJ.out; have h2 := HQ.out; omega
      obtain ⟨r, HRr⟩ : ∃ r, Hid (r = R i) := ⟨_, rfl⟩
      have HRl : Hid (r < 18446744073709551616) := by show _ < _; rw [HRr.out]; exact HW.out.2 i
      have KN : Hid (Calls Tryd.prog 73 #[.slice (some ⟨w.heap.size, j, none⟩) (q - j) (q - j)] wr fun e w' => e = .returned (.int .u64 (r : Nat)) ∧ w' = wr) := by
        have h := number_ok w.heap.size j (q - j) (q - j) (byteK r) wr (by omega) (Nat.le_refl _) (fun k hk => by have h := HH3.out.cell i k hil hk; rw [Nat.zero_add] at h; rw [HJ.out, HRr.out]; exact h) (byteK_lt r)
        rw [numK_byteK r HRl.out] at h
        exact h
      obtain ⟨A1, HA1⟩ : ∃ x, Hid (x = Nat.xor A (k + 1)) := ⟨_, rfl⟩
      have hx : bits .xor .u64 ((A : Nat) : Int) (((k : Nat) : Int) + 1) = (A1 : Nat) := by rw [HA1.out]; exact xor64 A (k + 1) HAl.out (by omega)
      have HA1l : Hid (A1 < 18446744073709551616) := by show _ < _; rw [HA1.out]; exact Nat.xor_lt_two_pow (n := 64) HAl.out (by omega)
      obtain ⟨S, HS⟩ : ∃ S, Hid (S = joinW A1 r) := ⟨_, rfl⟩
      obtain ⟨T, HT⟩ : ∃ T, Hid (T = dcW nr K S) := ⟨_, rfl⟩
      have HSo : Hid S.ok := by show S.ok; rw [HS.out]; exact joinW_ok HA1l.out HRl.out
      have HTo : Hid T.ok := by show T.ok; rw [HT.out]; exact dcW_ok HC.out.small nr S
      have KJ : Hid (∀ u, Calls Tryd.prog 72 #[.int .u64 (A1 : Nat), .int .u64 (r : Nat)] u fun e u' => e = .returned S.blk ∧ Below u.heap.size u u') := fun u => by rw [HS.out]; exact join_ok A1 r HA1l.out HRl.out u
      obtain ⟨hv, HHV⟩ : ∃ x, Hid (x = T.a * 4294967296 + T.b) := ⟨_, rfl⟩
      obtain ⟨lv, HLV⟩ : ∃ x, Hid (x = T.c * 4294967296 + T.d) := ⟨_, rfl⟩
      have KH : Hid (∀ u, Calls Tryd.prog 70 #[T.blk] u fun e u' => e = .returned (.tuple #[.int .u64 (hv : Nat), .int .u64 (lv : Nat)]) ∧ Below u.heap.size u u') := fun u => by rw [HHV.out, HLV.out]; exact halves_ok T HTo.out u
      have HLl : Hid (lv < 18446744073709551616) := by show _ < _; rw [HLV.out]; exact W4.lo_lt HTo.out
      have KE : Hid (∀ u, Below wr.heap.size wr u → Calls Tryd.prog 44 #[.pointer (some ⟨g, o, none⟩), S.blk] u fun e u' => e = .returned T.blk ∧ Below u.heap.size u u') := fun u hb => by
        rw [HT.out]
        exact dec_ok g o nr K S u ((HC.out.below HB3.out HC.out.here).below hb (Nat.lt_of_lt_of_le HC.out.here HB3.out.size)) HSo.out
      have HST : Hid (unStep nr K n k (A, R) = (hv, setR R i lv)) := by
        show _ = _
        rw [HHV.out, HLV.out, HT.out, HS.out, HA1.out, HRr.out, HI.out]
        rfl
      generalize hSb : S.blk = sb at KJ KE
      generalize hTb : T.blk = tb at KE KH
      have HSb : Hid (S.blk = sb) := hSb
      have HTb : Hid (T.blk = tb) := hTb
      clear hSb hTb
      go_wp2_with (first | (go_at_call 73; refine KN.out.mono ?_))
      rintro e1 w1' ⟨rfl, rfl⟩
      go_wp2_with (first | (go_at_call 72; refine (KJ.out _).mono ?_))
      rintro e2 u2 ⟨rfl, hb2⟩
      have HU2 : Hid (Below w1'.heap.size w1' u2) := hb2
      clear hb2
      go_wp2_with (first | (go_at_call 44; refine (KE.out _ HU2.out).mono ?_))
      rintro e3 u3 ⟨rfl, hb3⟩
      have HU3 : Hid (Below w1'.heap.size w1' u3) := HU2.out.trans (hb3.mono HU2.out.size)
      clear hb3 HU2
      go_wp2_with (first | (go_at_call 70; refine (KH.out _).mono ?_))
      rintro e4 u4 ⟨rfl, hb4⟩
      have HU4 : Hid (Below w1'.heap.size w1' u4) := HU3.out.trans (hb4.mono HU3.out.size)
      clear hb4 HU3
      have HH4 : Hid (Halves u4 w.heap.size 0 n R) := HH3.out.below HU4.out HH3.out.here
      have HB4 : Hid (Below w.heap.size w u4) := HB3.out.trans (HU4.out.mono HB3.out.size)
      have KP : Hid (Calls Tryd.prog 74 #[.slice (some ⟨w.heap.size, j, none⟩) (q - j) (q - j), .int .u64 (lv : Nat)] u4 fun e w' => e = .returned (.tuple #[]) ∧ Touch u4 w' w.heap.size j 8 ∧ ∀ k, k < 8 → w'.cell? ⟨w.heap.size, j + k, none⟩ = some (.int .u8 (byteK lv k : Nat))) :=
        put_ok w.heap.size j (q - j) (q - j) lv u4 (by omega) HLl.out (there_mid (a := 0) HH4.out.room j 8 (by have h1 := HJ.out; omega))
      go_wp2_with (first | (go_at_call 74; refine KP.out.mono ?_))
      rintro e5 u5 ⟨rfl, ht5, hc5⟩
      have HH5 : Hid (Halves u5 w.heap.size 0 n (setR R i lv)) := HH4.out.put i lv hil (by rw [Nat.zero_add, ← HJ.out]; exact ht5) (by rw [Nat.zero_add, ← HJ.out]; exact hc5)
      have HB5 : Hid (Below w.heap.size w u5) := HB4.out.trans (ht5.toBelow (Nat.le_refl _) HB4.out.size)
      have HA5 : Hid (aft (unStep nr K n) k (hv, setR R i lv) = aft (unStep nr K n) (6 * n) (un0 f)) := by
        show _ = _
        rw [← HST.out, ← aft_succ]
        exact HA.out
      have HW5 : Hid (Rok (hv, setR R i lv)) := by
        show Rok _
        rw [← HST.out]
        exact unStep_ok HC.out.small nr n k HW.out
      clear ht5 hc5
      go_wp2
      go_roundw
      case rel => exact ⟨k, hv, _, setR R i lv, by omega, by omega, rfl, rfl, HA5, HW5, HH5, HB5⟩
      case measure => simp [intOf]
    · obtain rfl : k = 0 := by omega
      obtain rfl : z = -1 := by omega
      have HA6 : Hid ((A, R) = aft (unStep nr K n) (6 * n) (un0 f)) := HA.out
      clear HA
      go_wp2
      go_ret2
      rw [← HA6.out]
      exact ⟨rfl, HH3.out, HB3.out⟩
end Go.Proofs.YtgmfiljjogdccaaDoor
namespace Go.Proofs.YtgmfiljjogdccaaDoor
open Go.RowKit
set_option linter.unusedVariables false
/-- What checkLength answers: 0 where the length lies within its bounds and is of whole halves. -/
theorem checkLength_ok (n lo hi : Nat) (w : World) (h1 : lo ≤ n) (h2 : n % 8 = 0) (h3 : n ≤ hi) (hh : hi ≤ 1099511627776) :
    Calls Tryd.prog 49 #[.int .i64 (n : Nat), .int .i64 (lo : Nat), .int .i64 (hi : Nat)] w fun e w' => e = .returned (.int .i64 0) ∧ w' = w := by
  have hm : ((n : Nat) : Int) % 8 = 0 := by omega
  go_enter Tryd.func49, Tryd.ntmps49
  go_wp2
  go_ret
  exact ⟨rfl, rfl⟩
end Go.Proofs.YtgmfiljjogdccaaDoor
namespace Go.Proofs.YtgmfiljjogdccaaDoor
open Go.RowKit Go.RwLone
set_option linter.unusedVariables false
theorem Halves.far {w w' : World} {s off n g o c : Nat} {R : Nat → Nat} (h : Halves w s off n R) (ht : Touch w w' g o c) (hne : s ≠ g) : Halves w' s off n R :=
  ⟨Nat.lt_of_lt_of_le h.here ht.size, fun j hj => ⟨by rw [ht.far h.here hne]; exact (h.room j hj).1, by rw [ht.farFrozen h.here hne]; exact (h.room j hj).2⟩, fun i k hi hk => (ht.far h.here hne).trans (h.cell i k hi hk)⟩
set_option maxHeartbeats 1600000 in
set_option maxRecDepth 100000 in
theorem kwrap_ok (g nr n b po cap : Nat) (K : Nat → Nat) (f : Nat → Nat) (w : World) (h : KeyAt w g nr K) (hn : 2 ≤ n) (hm : n ≤ 512) (hcap : 8 * n ≤ cap) (hb : b < w.heap.size) (hbg : b ≠ g) (hp : ∀ i, i < 8 * n → w.cell? ⟨b, po + i, none⟩ = some (.int .u8 (f i : Nat))) (hf : ∀ i, f i < 256) :
    Calls Tryd.prog 34 #[.pointer (some ⟨g, 0, none⟩), .slice (some ⟨b, po, none⟩) (8 * n) cap] w fun e w' => ∃ s, e = .returned (.tuple #[.slice (some ⟨s, 0, none⟩) (8 + 8 * n) (8 + 8 * n), .int .i64 0]) ∧ w.heap.size ≤ s ∧ Halves w' s 8 n (wrapF nr K n f (6 * n)).2 ∧ (∀ k, k < 8 → w'.cell? ⟨s, k, none⟩ = some (.int .u8 (byteK (wrapF nr K n f (6 * n)).1 k : Nat))) ∧ KeyAt w' g nr K ∧ Touch w w' g 4 1 := by
  have HK : Hid (KeyAt w g nr K) := h
  have HH : Hid (Calls Tryd.prog 39 #[.pointer (some ⟨g, 0, none⟩)] w fun e w' => e = .returned (.int .i64 0) ∧ w' = w.setCell ⟨g, 4, none⟩ (.int .i32 1)) := hold_ok g nr K w h
  have HG : Hid (g < w.heap.size) := h.ciph.here
  have HP : Hid (b < w.heap.size ∧ b ≠ g ∧ (∀ i, i < 8 * n → w.cell? ⟨b, po + i, none⟩ = some (.int .u8 (f i : Nat))) ∧ (∀ i, f i < 256) ∧ 8 * n ≤ cap) := ⟨hb, hbg, hp, hf, hcap⟩
  have HL : Hid (∀ u, Calls Tryd.prog 49 #[.int .i64 (8 * n : Nat), .int .i64 (16 : Nat), .int .i64 (4096 : Nat)] u fun e w' => e = .returned (.int .i64 0) ∧ w' = u) := fun u => checkLength_ok (8 * n) 16 4096 u (by omega) (by omega) (by omega) (by omega)
  clear h hb hbg hp hf
  obtain ⟨m, HM⟩ : ∃ m, Hid (m = 8 * n) := ⟨_, rfl⟩
  rw [← HM.out] at HL hcap ⊢
  obtain ⟨q, HQ⟩ : ∃ q, Hid (q = 8 + m) := ⟨_, rfl⟩
  rw [← HQ.out]
  go_enter_defers Tryd.func34, Tryd.ntmps34
  go_wp2_with (first | (go_at_call 39; refine HH.out.mono ?_))
  rintro e1 w1 ⟨rfl, hw1⟩
  have H1 : Hid (Ciph w1 g 6 nr K ∧ Touch w w1 g 4 1 ∧ w1.cell? ⟨g, 4, none⟩ = some (.int .i32 1)) := held HK.out hw1
  clear hw1 HH
  go_wp2_with (first | (go_at_call 49; refine (HL.out _).mono ?_))
  rintro e2 w2 ⟨rfl, rfl⟩
  have HW : Hid (Calls Tryd.prog 50 #[.pointer (some ⟨g, 6, none⟩), .slice (some ⟨b, po, none⟩) m cap] w2 fun e w' => e = .returned (.slice (some ⟨w2.heap.size, 0, none⟩) (8 + 8 * n) (8 + 8 * n)) ∧ Halves w' w2.heap.size 8 n (wrapF nr K n f (6 * n)).2 ∧ (∀ k, k < 8 → w'.cell? ⟨w2.heap.size, k, none⟩ = some (.int .u8 (byteK (wrapF nr K n f (6 * n)).1 k : Nat))) ∧ Below w2.heap.size w2 w') := by
    rw [HM.out]
    obtain ⟨p1, p2, p3, p4, p5⟩ := HP.out
    exact wrap_ok g 6 nr n b po cap K f w2 H1.out.1 (by omega) (by omega) p5 (Nat.lt_of_lt_of_le p1 H1.out.2.1.size) (fun i hi => (H1.out.2.1.far p1 p2).trans (p3 i hi)) p4
  rw [← HM.out, ← HQ.out] at HW
  go_wp2_with (first | (go_at_call 50; refine HW.out.mono ?_))
  rintro e3 w3 ⟨rfl, hh3, hc3, hb3⟩
  have H3 : Hid (Halves w3 w2.heap.size 8 n (wrapF nr K n f (6 * n)).2 ∧ (∀ k, k < 8 → w3.cell? ⟨w2.heap.size, k, none⟩ = some (.int .u8 (byteK (wrapF nr K n f (6 * n)).1 k : Nat))) ∧ Touch w w3 g 4 1 ∧ w3.cell? ⟨g, 4, none⟩ = some (.int .i32 1)) :=
    ⟨hh3, hc3, H1.out.2.1.below hb3 HG.out, (hb3.cell H1.out.1.here).trans H1.out.2.2⟩
  clear hh3 hc3 hb3
  go_wp2_with fail
  refine leaves_cons (f := 40) (args := #[.pointer (some ⟨g, 0, none⟩)]) (by simp) (by simp [go_sem]) ?_
  refine (unlocked HK.out H3.out.2.2.1 H3.out.2.2.2).mono ?_
  rintro e5 u5 w5 ⟨rfl, rfl, hk5, ht5, hw5⟩
  have ht : Touch w3 w5 g 4 1 := by rw [hw5]; exact (Touch.refl w3 g 4 1).setCells 4 _ (by omega) (by simp)
  have hsz := H1.out.2.1.size
  have hgw := HG.out
  have hne : w2.heap.size ≠ g := by omega
  refine ⟨_, results_tmp2 rfl _ _ _, w2.heap.size, rfl, hsz, H3.out.1.far ht hne, fun k hk => ?_, hk5, ht5⟩
  exact (ht.far (p := ⟨w2.heap.size, k, none⟩) H3.out.1.here hne).trans (H3.out.2.1 k hk)
end Go.Proofs.YtgmfiljjogdccaaDoor
namespace Go.Proofs.YtgmfiljjogdccaaDoor
open Go.RowKit Go.RwLone
set_option linter.unusedVariables false
set_option maxHeartbeats 1600000 in
set_option maxRecDepth 100000 in
theorem kunwrap_ok (g nr n b po cap : Nat) (K : Nat → Nat) (f : Nat → Nat) (w : World) (h : KeyAt w g nr K) (hn : 2 ≤ n) (hm : n ≤ 512) (hcap : 8 + 8 * n ≤ cap) (hb : b < w.heap.size) (hbg : b ≠ g) (hp : ∀ i, i < 8 + 8 * n → w.cell? ⟨b, po + i, none⟩ = some (.int .u8 (f i : Nat))) (hf : ∀ i, f i < 256) (hgood : (aft (unStep nr K n) (6 * n) (un0 f)).1 = 12008468691120727718) :
    Calls Tryd.prog 35 #[.pointer (some ⟨g, 0, none⟩), .slice (some ⟨b, po, none⟩) (8 + 8 * n) cap] w fun e w' => ∃ s, e = .returned (.tuple #[.slice (some ⟨s, 0, none⟩) (8 * n) (8 * n), .int .i64 0]) ∧ w.heap.size ≤ s ∧ Halves w' s 0 n (aft (unStep nr K n) (6 * n) (un0 f)).2 ∧ KeyAt w' g nr K ∧ Touch w w' g 4 1 := by
  have HK : Hid (KeyAt w g nr K) := h
  have HH : Hid (Calls Tryd.prog 39 #[.pointer (some ⟨g, 0, none⟩)] w fun e w' => e = .returned (.int .i64 0) ∧ w' = w.setCell ⟨g, 4, none⟩ (.int .i32 1)) := hold_ok g nr K w h
  have HG : Hid (g < w.heap.size) := h.ciph.here
  have HP : Hid (b < w.heap.size ∧ b ≠ g ∧ (∀ i, i < 8 + 8 * n → w.cell? ⟨b, po + i, none⟩ = some (.int .u8 (f i : Nat))) ∧ (∀ i, f i < 256) ∧ 8 + 8 * n ≤ cap) := ⟨hb, hbg, hp, hf, hcap⟩
  have HL : Hid (∀ u, Calls Tryd.prog 49 #[.int .i64 (8 + 8 * n : Nat), .int .i64 (24 : Nat), .int .i64 (4104 : Nat)] u fun e w' => e = .returned (.int .i64 0) ∧ w' = u) := fun u => checkLength_ok (8 + 8 * n) 24 4104 u (by omega) (by omega) (by omega) (by omega)
  have HGD : Hid ((aft (unStep nr K n) (6 * n) (un0 f)).1 = 12008468691120727718) := hgood
  clear h hb hbg hp hf hgood
  obtain ⟨q, HQ⟩ : ∃ q, Hid (q = 8 * n) := ⟨_, rfl⟩
  obtain ⟨m, HM⟩ : ∃ m, Hid (m = 8 + q) := ⟨_, rfl⟩
  rw [← HQ.out, ← HM.out] at HL hcap
  rw [← HQ.out, ← HM.out]
  go_enter_defers Tryd.func35, Tryd.ntmps35
  go_wp2_with (first | (go_at_call 39; refine HH.out.mono ?_))
  rintro e1 w1 ⟨rfl, hw1⟩
  have H1 : Hid (Ciph w1 g 6 nr K ∧ Touch w w1 g 4 1 ∧ w1.cell? ⟨g, 4, none⟩ = some (.int .i32 1)) := held HK.out hw1
  clear hw1 HH
  go_wp2_with (first | (go_at_call 49; refine (HL.out _).mono ?_))
  rintro e2 w2 ⟨rfl, rfl⟩
  have HW : Hid (Calls Tryd.prog 51 #[.pointer (some ⟨g, 6, none⟩), .slice (some ⟨b, po, none⟩) m cap] w2 fun e w' => e = .returned (.tuple #[.slice (some ⟨w2.heap.size, 0, none⟩) q q, .int .u64 12008468691120727718]) ∧ Halves w' w2.heap.size 0 n (aft (unStep nr K n) (6 * n) (un0 f)).2 ∧ Below w2.heap.size w2 w') := by
    rw [HM.out, HQ.out]
    obtain ⟨p1, p2, p3, p4, p5⟩ := HP.out
    have h := unwrap_ok g 6 nr n b po cap K f w2 H1.out.1 (by omega) (by omega) p5 (Nat.lt_of_lt_of_le p1 H1.out.2.1.size) (fun i hi => (H1.out.2.1.far p1 p2).trans (p3 i hi)) p4
    rw [HGD.out] at h
    exact h
  go_wp2_with (first | (go_at_call 51; refine HW.out.mono ?_))
  rintro e3 w3 ⟨rfl, hh3, hb3⟩
  have H3 : Hid (Halves w3 w2.heap.size 0 n (aft (unStep nr K n) (6 * n) (un0 f)).2 ∧ Touch w w3 g 4 1 ∧ w3.cell? ⟨g, 4, none⟩ = some (.int .i32 1)) :=
    ⟨hh3, H1.out.2.1.below hb3 HG.out, (hb3.cell H1.out.1.here).trans H1.out.2.2⟩
  clear hh3 hb3
  go_wp2_with fail
  refine leaves_cons (f := 40) (args := #[.pointer (some ⟨g, 0, none⟩)]) (by simp) (by simp [go_sem]) ?_
  refine (unlocked HK.out H3.out.2.1 H3.out.2.2).mono ?_
  rintro e5 u5 w5 ⟨rfl, rfl, hk5, ht5, hw5⟩
  have ht : Touch w3 w5 g 4 1 := by rw [hw5]; exact (Touch.refl w3 g 4 1).setCells 4 _ (by omega) (by simp)
  have hsz := H1.out.2.1.size
  have hgw := HG.out
  have hne : w2.heap.size ≠ g := by omega
  exact ⟨_, results_tmp2 rfl _ _ _, w2.heap.size, rfl, hsz, H3.out.1.far ht hne, hk5, ht5⟩
/-- What was wrapped, read as bytes: A, then the halves. -/
def wrB (x : Nat × (Nat → Nat)) : Nat → Nat := fun i => if i < 8 then byteK x.1 i else byteK (x.2 ((i - 8) / 8)) ((i - 8) % 8)
theorem wrB_lt (x : Nat × (Nat → Nat)) (i : Nat) : wrB x i < 256 := by unfold wrB; split <;> exact byteK_lt _ _
theorem un0_wrB {x : Nat × (Nat → Nat)} (h : Rok x) : un0 (wrB x) = x := by
  obtain ⟨a, R⟩ := x
  have e1 : numK (wrB (a, R)) 8 = a := by
    have : numK (wrB (a, R)) 8 = numK (byteK a) 8 := by simp [numK, wrB]
    rw [this]; exact numK_byteK a h.1
  have e2 : halfs (fun i => wrB (a, R) (8 + i)) = R := by
    funext i
    have h0 : ∀ k, k < 8 → wrB (a, R) (8 + (8 * i + k)) = byteK (R i) k := fun k hk => by
      have h1 : ¬ 8 + (8 * i + k) < 8 := by omega
      have h2 : (8 + (8 * i + k) - 8) / 8 = i := by omega
      have h3 : (8 + (8 * i + k) - 8) % 8 = k := by omega
      simp only [wrB, h1, if_false, h2, h3]
    have : numK (fun k => wrB (a, R) (8 + (8 * i + k))) 8 = numK (byteK (R i)) 8 := by
      simp only [numK, h0 0 (by decide), h0 1 (by decide), h0 2 (by decide), h0 3 (by decide), h0 4 (by decide), h0 5 (by decide), h0 6 (by decide), h0 7 (by decide)]
    show numK (fun k => wrB (a, R) (8 + (8 * i + k))) 8 = R i
    rw [this]
    exact numK_byteK _ (h.2 i)
  show (numK (wrB (a, R)) 8, halfs (fun i => wrB (a, R) (8 + i))) = (a, R)
  rw [e1, e2]
end Go.Proofs.YtgmfiljjogdccaaDoor
namespace Go.Proofs.YtgmfiljjogdccaaDoor
open Go.RowKit
set_option linter.unusedVariables false
/-- A schedule that is written down is that of the key, if each of its words follows from those ahead of it. -/
theorem goW_at {nk : Nat} {K0 F : Nat → Nat} (h0 : ∀ j, j < nk → K0 j = F j) (hn : 0 < nk) {M : Nat} (hs : ∀ m, m < M → nextW nk (nk + m) F = F (nk + m)) : ∀ m, m ≤ M → ∀ j, j < nk + m → goW nk K0 m j = F j := by
  intro m
  induction m with
  | zero => exact fun _ j hj => h0 j (by omega)
  | succ m ih =>
    intro hm j hj
    have ih' := ih (by omega)
    unfold goW upd
    by_cases hjm : j = nk + m
    · rw [if_pos hjm, hjm, ← hs m (by omega)]
      unfold nextW
      rw [ih' (nk + m - nk) (by omega), ih' (nk + m - 1) (by omega)]
    · rw [if_neg hjm]
      exact ih' j (by omega)
theorem addK_congr {K F : Nat → Nat} {r : Nat} (h : ∀ j, j < 4 * (r + 1) → K j = F j) (s : W4) : addK K r s = addK F r s := by
  unfold addK
  rw [h (4 * r) (by omega), h (4 * r + 1) (by omega), h (4 * r + 2) (by omega), h (4 * r + 3) (by omega)]
theorem iterE_congr {K F : Nat → Nat} (s : W4) (r : Nat) (h : ∀ j, j < 4 * (r + 1) → K j = F j) : iterE K r s = iterE F r s := by
  induction r with
  | zero => rw [iterE_zero, iterE_zero]
  | succ r ih => rw [iterE_succ, iterE_succ, ih (fun j hj => h j (by omega)), addK_congr h]
theorem encW_congr {K F : Nat → Nat} {nr : Nat} (h1 : 1 ≤ nr) (h : ∀ j, j < 4 * (nr + 1) → K j = F j) (s : W4) : encW nr K s = encW nr F s := by
  unfold encW
  rw [addK_congr (r := 0) (fun j hj => h j (by omega)), iterE_congr _ (nr - 1) (fun j hj => h j (by omega)), addK_congr h]
/-- A list of words out of one number. -/
def wordT (n j : Nat) : Nat := Nat.mod (Nat.shiftRight n (Nat.mul 32 j)) 4294967296
def W16 : Nat := 2135183411306450747924455776101631667317021435197242029516822643292385793394556178976294297568553652486272567026286629297947075971482648749057793986447198710817864160694422276215993401979832658662751292340275810678820517951599512784483112403130681781938724593781911744968406893768034920525865760486124286933107695541170726264261124972481373622074072336675592582977578699619304832075701685807426322995989797651311590042042883
def key16 (i : Nat) : Nat := Nat.mod (Nat.shiftRight 20011376718272490338853433276725592320 (Nat.mul 8 i)) 256
theorem W16_key : ∀ j : Fin 4, keyW key16 16 j.1 = wordT W16 j.1 := by decide +kernel
theorem W16_next : ∀ m : Fin 40, nextW 4 (4 + m.1) (wordT W16) = wordT W16 (4 + m.1) := by decide +kernel
theorem sched16 : ∀ j, j < 44 → schedK 4 key16 j = wordT W16 j := fun j hj =>
  goW_at (fun j hj => W16_key ⟨j, hj⟩) (by decide) (M := 40) (fun m hm => W16_next ⟨m, hm⟩) 40 (Nat.le_refl _) j (by omega)
def W24 : Nat := 729328934795255555490277851006730375856188269561163575406021219476903401627521025716984479554611303630301180246252225068864986183027940516296883972211032065994115010788029758665927779365528380332424018344531848639015454836505358409328253008345992468745886702614064518615513767017199666280190800970210691493213224184692499272855399702965942998223869555410042228926578153626562128278023057192759156250679943918747124702184545746189071564077277751059192648854853476604783356490128425658539062275606643203
def key24 (i : Nat) : Nat := Nat.mod (Nat.shiftRight 566073426779046459040877649791461066728553822781039575296 (Nat.mul 8 i)) 256
theorem W24_key : ∀ j : Fin 6, keyW key24 24 j.1 = wordT W24 j.1 := by decide +kernel
theorem W24_next : ∀ m : Fin 46, nextW 6 (6 + m.1) (wordT W24) = wordT W24 (6 + m.1) := by decide +kernel
theorem sched24 : ∀ j, j < 52 → schedK 6 key24 j = wordT W24 j := fun j hj =>
  goW_at (fun j hj => W24_key ⟨j, hj⟩) (by decide) (M := 46) (fun m hm => W24_next ⟨m, hm⟩) 46 (Nat.le_refl _) j (by omega)
def W32 : Nat := 40588901833789785159217277571222803699713122000033715455120290826434294749228737489858619682393124213434237382448684798201429199859042181465691985922769736547614597994086458994488101378311087064657394489849946737440617656986741278393373241810245004935003052300679918820526303281682444060725392835778184555668714201509861331811386879129221345592586309791718563399891105740675620352127312404174940521730267585763785796873970309904313455019118516937793663314812563166091624445326649780233741323562049636414094104325048685980178953483258441415514281378694392646619490463384516755971
def key32 (i : Nat) : Nat := Nat.mod (Nat.shiftRight 14074904626401341155369551180448584754667373453244490859944217516317499064576 (Nat.mul 8 i)) 256
theorem W32_key : ∀ j : Fin 8, keyW key32 32 j.1 = wordT W32 j.1 := by decide +kernel
theorem W32_next : ∀ m : Fin 52, nextW 8 (8 + m.1) (wordT W32) = wordT W32 (8 + m.1) := by decide +kernel
theorem sched32 : ∀ j, j < 60 → schedK 8 key32 j = wordT W32 j := fun j hj =>
  goW_at (fun j hj => W32_key ⟨j, hj⟩) (by decide) (M := 52) (fun m hm => W32_next ⟨m, hm⟩) 52 (Nat.le_refl _) j (by omega)
def W3 : Nat := 5046468880051722124165138377573495752352814026446080871608016796122220429082579000232600314235784662476030427341372658306567627449033442801373289480869096360226894485099629028185229497190130648053266891598727969131253797210077642090429746202649527074628884158587131746570320957489095398094032979503431341887810050553743204897050105276776682016117297116796442808330014977125357325912016584471395215433345801901684693189661974
def key3 (i : Nat) : Nat := Nat.mod (Nat.shiftRight 80168070412877140649889332058278690347 (Nat.mul 8 i)) 256
theorem W3_key : ∀ j : Fin 4, keyW key3 16 j.1 = wordT W3 j.1 := by decide +kernel
theorem W3_next : ∀ m : Fin 40, nextW 4 (4 + m.1) (wordT W3) = wordT W3 (4 + m.1) := by decide +kernel
theorem sched3 : ∀ j, j < 44 → schedK 4 key3 j = wordT W3 j := fun j hj =>
  goW_at (fun j hj => W3_key ⟨j, hj⟩) (by decide) (M := 40) (fun m hm => W3_next ⟨m, hm⟩) 40 (Nat.le_refl _) j (by omega)
theorem vec16 : encW 10 (wordT W16) ⟨1122867, 1146447479, 2291772091, 3437096703⟩ = ⟨1774510296, 1786446896, 3637360512, 1890895194⟩ := by
  have h : (encW 10 (wordT W16) ⟨1122867, 1146447479, 2291772091, 3437096703⟩).a = 1774510296 ∧ (encW 10 (wordT W16) ⟨1122867, 1146447479, 2291772091, 3437096703⟩).b = 1786446896 ∧ (encW 10 (wordT W16) ⟨1122867, 1146447479, 2291772091, 3437096703⟩).c = 3637360512 ∧ (encW 10 (wordT W16) ⟨1122867, 1146447479, 2291772091, 3437096703⟩).d = 1890895194 := by decide +kernel
  obtain ⟨a, b, c, d⟩ := h
  generalize encW 10 (wordT W16) ⟨1122867, 1146447479, 2291772091, 3437096703⟩ = x at a b c d
  cases x
  simp only at a b c d
  rw [a, b, c, d]
theorem vec24 : encW 12 (wordT W24) ⟨1122867, 1146447479, 2291772091, 3437096703⟩ = ⟨3718872228, 2253184992, 1856991392, 3960304017⟩ := by
  have h : (encW 12 (wordT W24) ⟨1122867, 1146447479, 2291772091, 3437096703⟩).a = 3718872228 ∧ (encW 12 (wordT W24) ⟨1122867, 1146447479, 2291772091, 3437096703⟩).b = 2253184992 ∧ (encW 12 (wordT W24) ⟨1122867, 1146447479, 2291772091, 3437096703⟩).c = 1856991392 ∧ (encW 12 (wordT W24) ⟨1122867, 1146447479, 2291772091, 3437096703⟩).d = 3960304017 := by decide +kernel
  obtain ⟨a, b, c, d⟩ := h
  generalize encW 12 (wordT W24) ⟨1122867, 1146447479, 2291772091, 3437096703⟩ = x at a b c d
  cases x
  simp only at a b c d
  rw [a, b, c, d]
theorem vec32 : encW 14 (wordT W32) ⟨1122867, 1146447479, 2291772091, 3437096703⟩ = ⟨2393028554, 1365722559, 3942402448, 1263100041⟩ := by
  have h : (encW 14 (wordT W32) ⟨1122867, 1146447479, 2291772091, 3437096703⟩).a = 2393028554 ∧ (encW 14 (wordT W32) ⟨1122867, 1146447479, 2291772091, 3437096703⟩).b = 1365722559 ∧ (encW 14 (wordT W32) ⟨1122867, 1146447479, 2291772091, 3437096703⟩).c = 3942402448 ∧ (encW 14 (wordT W32) ⟨1122867, 1146447479, 2291772091, 3437096703⟩).d = 1263100041 := by decide +kernel
  obtain ⟨a, b, c, d⟩ := h
  generalize encW 14 (wordT W32) ⟨1122867, 1146447479, 2291772091, 3437096703⟩ = x at a b c d
  cases x
  simp only at a b c d
  rw [a, b, c, d]
end Go.Proofs.YtgmfiljjogdccaaDoor
