import Derived.Test.YtgmfiljjogdccabGreatDoorPart00
import Derived.Test.YtgmfiljjogdccabGreatDoorEnc
namespace Go.Proofs.YtgmfiljjogdccabGreatDoor
open Go.RowKit
set_option linter.unusedVariables false
set_option linter.unusedSimpArgs false
set_option maxHeartbeats 6400000 in
set_option maxRecDepth 100000 in
theorem dec_r6 {Q : Exit → Act → World → Prop} (s1 s2 s3 s4 s6 s7 s8 s9 s10 s11 s12 s13 s14 s15 s16 s17 s18 s19 s20 s21 s22 s23 s24 s25 s26 s27 s28 s29 s30 s31 s32 s33 s34 s35 s36 s37 s38 s39 s40 s41 s42 s43 s44 s45 s46 s47 s48 s49 s50 s51 s52 s53 s54 s55 s56 s57 s58 s59 s60 s61 s62 s63 s64 s65 s66 s67 s68 s69 s70 s71 s72 s73 s74 s75 s76 s77 s78 s79 s80 s81 s82 s83 s84 s85 s86 s87 s88 s89 s90 s91 s92 s93 s94 s95 s96 s97 s98 s99 s100 s101 s102 s103 s104 s105 s106 s107 s108 s109 s110 s111 s112 s113 s114 s115 s116 s117 s118 s119 s120 s121 s122 s123 s124 s125 s126 s127 s128 : Value) (g o A n0 n1 n2 n3 y0 y1 y2 y3 : Nat) (wr : World)
  (k0 : Hid (∀ u, Below (A + 1) wr u → Calls Tryz.prog 80 #[.pointer (some ⟨g, o, none⟩), .int .u32 (n0 : Nat)] u fun e u' => e = .returned (.int .u32 (y0 : Nat)) ∧ Below (A + 1) wr u'))
  (k1 : Hid (∀ u, Below (A + 1) wr u → Calls Tryz.prog 80 #[.pointer (some ⟨g, o, none⟩), .int .u32 (n1 : Nat)] u fun e u' => e = .returned (.int .u32 (y1 : Nat)) ∧ Below (A + 1) wr u'))
  (k2 : Hid (∀ u, Below (A + 1) wr u → Calls Tryz.prog 80 #[.pointer (some ⟨g, o, none⟩), .int .u32 (n2 : Nat)] u fun e u' => e = .returned (.int .u32 (y2 : Nat)) ∧ Below (A + 1) wr u'))
  (k3 : Hid (∀ u, Below (A + 1) wr u → Calls Tryz.prog 80 #[.pointer (some ⟨g, o, none⟩), .int .u32 (n3 : Nat)] u fun e u' => e = .returned (.int .u32 (y3 : Nat)) ∧ Below (A + 1) wr u'))
  (g0 : Hid (∀ u, Below (A + 1) wr u → u.cell? ⟨A, 0, none⟩ = some (.int .u32 (n0 : Nat))))
  (g1 : Hid (∀ u, Below (A + 1) wr u → u.cell? ⟨A, 1, none⟩ = some (.int .u32 (n1 : Nat))))
  (g2 : Hid (∀ u, Below (A + 1) wr u → u.cell? ⟨A, 2, none⟩ = some (.int .u32 (n2 : Nat))))
  (g3 : Hid (∀ u, Below (A + 1) wr u → u.cell? ⟨A, 3, none⟩ = some (.int .u32 (n3 : Nat))))
  (hth : wr.there A 0 4)
  (HQ : ∀ v3, Below (A + 1) wr v3 → Q .normal ⟨#[.pointer (some ⟨g, o, none⟩), s1, s2, s3, s4, .pointer (some ⟨A, 0, none⟩), s6, s7, s8, s9, s10, s11, s12, s13, s14, s15, s16, s17, s18, s19, s20, s21, s22, s23, s24, s25, s26, s27, s28, s29, s30, s31, s32, s33, s34, s35, s36, s37, s38, s39, s40, s41, s42, s43, s44, s45, s46, s47, s48, s49, s50, s51, s52, s53, s54, s55, s56, s57, s58, s59, s60, s61, s62, s63, s64, s65, s66, s67, .pointer (some ⟨g, o, none⟩), .pointer (some ⟨A, 0, none⟩), .int .u32 (n0 : Nat), .int .u32 (y0 : Nat), .pointer (some ⟨g, o, none⟩), .pointer (some ⟨A, 1, none⟩), .int .u32 (n1 : Nat), .int .u32 (y1 : Nat), .pointer (some ⟨g, o, none⟩), .pointer (some ⟨A, 2, none⟩), .int .u32 (n2 : Nat), .int .u32 (y2 : Nat), .pointer (some ⟨g, o, none⟩), .pointer (some ⟨A, 3, none⟩), .int .u32 (n3 : Nat), .int .u32 (y3 : Nat), .agg #[.int .u32 (y0 : Nat), .int .u32 (y1 : Nat), .int .u32 (y2 : Nat), .int .u32 (y3 : Nat)], s85, s86, s87, s88, s89, s90, s91, s92, s93, s94, s95, s96, s97, s98, s99, s100, s101, s102, s103, s104, s105, s106, s107, s108, s109, s110, s111, s112, s113, s114, s115, s116, s117, s118, s119, s120, s121, s122, s123, s124, s125, s126, s127, s128], []⟩ (v3.setCells A 0 [.int .u32 (y0 : Nat), .int .u32 (y1 : Nat), .int .u32 (y2 : Nat), .int .u32 (y3 : Nat)])) :
  (Code.region 6 #[{ dst := some 68, op := Op.move (Operand.tmp 0), type := 119, pos := "cipher.go:128", after := #[], guard := none }, { dst := some 69, op := Op.indexAddr 131 (Operand.tmp 5) (Operand.const (Value.int IntKind.i64 0)), type := 0, pos := "cipher.go:128", after := #[], guard := none }, { dst := some 70, op := Op.load 43 (Operand.tmp 69), type := 43, pos := "cipher.go:128", after := #[{ on := 1, ground := Ground.data }], guard := none }, { dst := some 71, op := Op.call { callee := Callee.value (Operand.func 80), args := #[Operand.tmp 68, Operand.tmp 70], argTypes := #[119, 43] }, type := 43, pos := "cipher.go:128", after := #[{ on := 0, ground := Ground.data }, { on := 2, ground := Ground.data }], guard := none }, { dst := some 72, op := Op.move (Operand.tmp 0), type := 119, pos := "cipher.go:128", after := #[], guard := none }, { dst := some 73, op := Op.indexAddr 131 (Operand.tmp 5) (Operand.const (Value.int IntKind.i64 1)), type := 0, pos := "cipher.go:128", after := #[], guard := none }, { dst := some 74, op := Op.load 43 (Operand.tmp 73), type := 43, pos := "cipher.go:128", after := #[{ on := 5, ground := Ground.data }], guard := none }, { dst := some 75, op := Op.call { callee := Callee.value (Operand.func 80), args := #[Operand.tmp 72, Operand.tmp 74], argTypes := #[119, 43] }, type := 43, pos := "cipher.go:128", after := #[{ on := 4, ground := Ground.data }, { on := 6, ground := Ground.data }, { on := 3, ground := Ground.chain }], guard := none }, { dst := some 76, op := Op.move (Operand.tmp 0), type := 119, pos := "cipher.go:128", after := #[], guard := none }, { dst := some 77, op := Op.indexAddr 131 (Operand.tmp 5) (Operand.const (Value.int IntKind.i64 2)), type := 0, pos := "cipher.go:128", after := #[], guard := none }, { dst := some 78, op := Op.load 43 (Operand.tmp 77), type := 43, pos := "cipher.go:128", after := #[{ on := 9, ground := Ground.data }], guard := none }, { dst := some 79, op := Op.call { callee := Callee.value (Operand.func 80), args := #[Operand.tmp 76, Operand.tmp 78], argTypes := #[119, 43] }, type := 43, pos := "cipher.go:128", after := #[{ on := 8, ground := Ground.data }, { on := 10, ground := Ground.data }, { on := 7, ground := Ground.chain }], guard := none }, { dst := some 80, op := Op.move (Operand.tmp 0), type := 119, pos := "cipher.go:128", after := #[], guard := none }, { dst := some 81, op := Op.indexAddr 131 (Operand.tmp 5) (Operand.const (Value.int IntKind.i64 3)), type := 0, pos := "cipher.go:128", after := #[], guard := none }, { dst := some 82, op := Op.load 43 (Operand.tmp 81), type := 43, pos := "cipher.go:128", after := #[{ on := 13, ground := Ground.data }], guard := none }, { dst := some 83, op := Op.call { callee := Callee.value (Operand.func 80), args := #[Operand.tmp 80, Operand.tmp 82], argTypes := #[119, 43] }, type := 43, pos := "cipher.go:128", after := #[{ on := 12, ground := Ground.data }, { on := 14, ground := Ground.data }, { on := 11, ground := Ground.chain }], guard := none }, { dst := some 84, op := Op.build 131 #[(0, Operand.tmp 71), (1, Operand.tmp 75), (2, Operand.tmp 79), (3, Operand.tmp 83)], type := 131, pos := "cipher.go:128", after := #[{ on := 3, ground := Ground.data }, { on := 7, ground := Ground.data }, { on := 11, ground := Ground.data }, { on := 15, ground := Ground.data }], guard := none }, { dst := none, op := Op.store 131 (Operand.tmp 5) (Operand.tmp 84), type := 0, pos := "cipher.go:128", after := #[{ on := 16, ground := Ground.data }, { on := 15, ground := Ground.chain }, { on := 0, ground := Ground.phase }, { on := 1, ground := Ground.phase }, { on := 2, ground := Ground.phase }, { on := 3, ground := Ground.phase }, { on := 4, ground := Ground.phase }, { on := 5, ground := Ground.phase }, { on := 6, ground := Ground.phase }, { on := 7, ground := Ground.phase }, { on := 8, ground := Ground.phase }, { on := 9, ground := Ground.phase }, { on := 10, ground := Ground.phase }, { on := 11, ground := Ground.phase }, { on := 12, ground := Ground.phase }, { on := 13, ground := Ground.phase }, { on := 14, ground := Ground.phase }, { on := 15, ground := Ground.phase }, { on := 16, ground := Ground.phase }], guard := none }] true).wp Tryz.prog Q ⟨#[.pointer (some ⟨g, o, none⟩), s1, s2, s3, s4, .pointer (some ⟨A, 0, none⟩), s6, s7, s8, s9, s10, s11, s12, s13, s14, s15, s16, s17, s18, s19, s20, s21, s22, s23, s24, s25, s26, s27, s28, s29, s30, s31, s32, s33, s34, s35, s36, s37, s38, s39, s40, s41, s42, s43, s44, s45, s46, s47, s48, s49, s50, s51, s52, s53, s54, s55, s56, s57, s58, s59, s60, s61, s62, s63, s64, s65, s66, s67, s68, s69, s70, s71, s72, s73, s74, s75, s76, s77, s78, s79, s80, s81, s82, s83, s84, s85, s86, s87, s88, s89, s90, s91, s92, s93, s94, s95, s96, s97, s98, s99, s100, s101, s102, s103, s104, s105, s106, s107, s108, s109, s110, s111, s112, s113, s114, s115, s116, s117, s118, s119, s120, s121, s122, s123, s124, s125, s126, s127, s128], []⟩ wr := by
 have hS0 : Below (A + 1) wr wr.drew := (Below.refl _ _).drew
 refine wp_region_noPanic ?_
 refine wp_region_till (fun u => Below (A + 1) wr u) 17 (by kernel_rfl) (by decide) (by decide +kernel) (by decide +kernel) (by decide +kernel) (fun inv => ?_)
 refine tU 0 68 (.pointer (some ⟨g, o, none⟩)) inv rfl rfl hS0 fun inv => ?_
 simp only [pU]
 refine tU 1 69 (.pointer (some ⟨A, 0, none⟩)) inv rfl rfl hS0 fun inv => ?_
 simp only [pU]
 refine tV 2 70 (.int .u32 (n0 : Nat)) inv rfl rfl hS0 g0.out fun inv => ?_
 simp only [pU]
 refine tU 4 72 (.pointer (some ⟨g, o, none⟩)) inv rfl rfl hS0 fun inv => ?_
 simp only [pU]
 refine tU 5 73 (.pointer (some ⟨A, 1, none⟩)) inv rfl rfl hS0 fun inv => ?_
 simp only [pU]
 refine tV 6 74 (.int .u32 (n1 : Nat)) inv rfl rfl hS0 g1.out fun inv => ?_
 simp only [pU]
 refine tU 8 76 (.pointer (some ⟨g, o, none⟩)) inv rfl rfl hS0 fun inv => ?_
 simp only [pU]
 refine tU 9 77 (.pointer (some ⟨A, 2, none⟩)) inv rfl rfl hS0 fun inv => ?_
 simp only [pU]
 refine tV 10 78 (.int .u32 (n2 : Nat)) inv rfl rfl hS0 g2.out fun inv => ?_
 simp only [pU]
 refine tU 12 80 (.pointer (some ⟨g, o, none⟩)) inv rfl rfl hS0 fun inv => ?_
 simp only [pU]
 refine tU 13 81 (.pointer (some ⟨A, 3, none⟩)) inv rfl rfl hS0 fun inv => ?_
 simp only [pU]
 refine tV 14 82 (.int .u32 (n3 : Nat)) inv rfl rfl hS0 g3.out fun inv => ?_
 simp only [pU]
 refine till_head (i := 3) inv (by decide +kernel) (by decide) rfl (fun K hK => ?_)
 go_simp
 refine (k0.out _ hS0).mono ?_
 rintro e1 v0 ⟨rfl, hv0⟩
 go_wp2_with fail
 refine hK.out _ _ hv0 (fun inv' => ?_)
 clear hK K inv; have inv := inv'; clear inv'
 try simp only [pU]
 refine till_head (i := 7) inv (by decide +kernel) (by decide) rfl (fun K hK => ?_)
 go_simp
 refine (k1.out _ hv0).mono ?_
 rintro e1 v1 ⟨rfl, hv1⟩
 go_wp2_with fail
 refine hK.out _ _ hv1 (fun inv' => ?_)
 clear hK K inv; have inv := inv'; clear inv'
 try simp only [pU]
 refine till_head (i := 11) inv (by decide +kernel) (by decide) rfl (fun K hK => ?_)
 go_simp
 refine (k2.out _ hv1).mono ?_
 rintro e1 v2 ⟨rfl, hv2⟩
 go_wp2_with fail
 refine hK.out _ _ hv2 (fun inv' => ?_)
 clear hK K inv; have inv := inv'; clear inv'
 try simp only [pU]
 refine till_head (i := 15) inv (by decide +kernel) (by decide) rfl (fun K hK => ?_)
 go_simp
 refine (k3.out _ hv2).mono ?_
 rintro e1 v3 ⟨rfl, hv3⟩
 go_wp2_with fail
 refine hK.out _ _ hv3 (fun inv' => ?_)
 clear hK K inv; have inv := inv'; clear inv'
 try simp only [pU]
 refine tT 16 84 (.agg #[.int .u32 (y0 : Nat), .int .u32 (y1 : Nat), .int .u32 (y2 : Nat), .int .u32 (y3 : Nat)]) inv rfl rfl (by decide +kernel) (hv3) (yieldsIf_build (by rfl) 131 #[(0, .tmp 71), (1, .tmp 75), (2, .tmp 79), (3, .tmp 83)] rfl _ (by simp only [List.map_toArray, List.map_cons, List.map_nil]; kernel_rfl)) (fun inv => ?_)
 simp only [pU]
 refine till_tail (i := 17) (by decide +kernel) (by decide) rfl (fun K hK => ?_)
 rw [if_pos (by rfl)]
 refine wp_store_mid 131 (.tmp 5) (.tmp 84) rfl A 0 #[.int .u32 (y0 : Nat), .int .u32 (y1 : Nat), .int .u32 (y2 : Nat), .int .u32 (y3 : Nat)] rfl rfl (there_below hth hv3 (Nat.lt_succ_self A)) (size115) (by kernel_rfl) ?_
 refine hK.out _ _ ?_
 clear hK K
 try simp only [pU]
 refine till_done (by decide +kernel) ?_ _
 refine NoPanic.normal ?_
 exact HQ _ hv3
end Go.Proofs.YtgmfiljjogdccabGreatDoor
