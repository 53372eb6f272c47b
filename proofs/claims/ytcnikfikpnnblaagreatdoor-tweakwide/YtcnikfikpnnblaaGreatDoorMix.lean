import Derived.Test.YtcnikfikpnnblaaGreatDoorWords
namespace Go.Proofs.YtcnikfikpnnblaaGreatDoor
open Go.RowKit
set_option linter.unusedVariables false
set_option maxHeartbeats 1600000 in
theorem last_ok (g o : Nat) (x0 x1 x2 x3 : Int) (a b c d : Nat) (w : World) (ha : a < 256) (hb : b < 256) (hc : c < 256) (hd : d < 256)
  (h0 : x0 / 16777216 % 256 = a) (h1 : x1 / 65536 % 256 = b) (h2 : x2 / 256 % 256 = c) (h3 : x3 % 256 = d) (hT : Tab w g o) :
  Calls Tryz.prog 120 #[.pointer (some ⟨g, o, none⟩), .int .u32 x0, .int .u32 x1, .int .u32 x2, .int .u32 x3] w fun e w' => e = .returned (.int .u32 (wd (SB a) (SB b) (SB c) (SB d) : Nat)) ∧ ∃ m, w' = w.drewN m := by
 have c0 := hT.s a ha
 have c1 := hT.s b hb
 have c2 := hT.s c hc
 have c3 := hT.s d hd
 clear hT
 obtain ⟨sa, Ha⟩ : ∃ s, Hid (s = SB a) := ⟨_, rfl⟩
 rw [← Ha.out] at c0
 rw [← Ha.out]
 have la : sa < 256 := by rw [Ha.out]; exact SB_lt a
 clear Ha
 obtain ⟨sb, Hb⟩ : ∃ s, Hid (s = SB b) := ⟨_, rfl⟩
 rw [← Hb.out] at c1
 rw [← Hb.out]
 have lb : sb < 256 := by rw [Hb.out]; exact SB_lt b
 clear Hb
 obtain ⟨sc, Hc⟩ : ∃ s, Hid (s = SB c) := ⟨_, rfl⟩
 rw [← Hc.out] at c2
 rw [← Hc.out]
 have lc : sc < 256 := by rw [Hc.out]; exact SB_lt c
 clear Hc
 obtain ⟨sd, Hd⟩ : ∃ s, Hid (s = SB d) := ⟨_, rfl⟩
 rw [← Hd.out] at c3
 rw [← Hd.out]
 have ld : sd < 256 := by rw [Hd.out]; exact SB_lt d
 clear Hd
 go_enter Tryz.func120, Tryz.ntmps120
 go_wp2
 go_quiet ((go_at_call 174; exact Calls.quiet_of_same (word_ok _ _ _ _ la lb lc ld _)))
 go_wp2
 go_ret
 exact ⟨rfl, _, rfl⟩
set_option maxHeartbeats 1600000 in
theorem undo_ok (g o : Nat) (x0 x1 x2 x3 : Int) (a b c d : Nat) (w : World) (ha : a < 256) (hb : b < 256) (hc : c < 256) (hd : d < 256)
  (h0 : x0 / 16777216 % 256 = a) (h1 : x1 / 65536 % 256 = b) (h2 : x2 / 256 % 256 = c) (h3 : x3 % 256 = d) (hT : Tab w g o) :
  Calls Tryz.prog 274 #[.pointer (some ⟨g, o, none⟩), .int .u32 x0, .int .u32 x1, .int .u32 x2, .int .u32 x3] w fun e w' => e = .returned (.int .u32 (wd (UB a) (UB b) (UB c) (UB d) : Nat)) ∧ ∃ m, w' = w.drewN m := by
 have c0 := hT.u a ha
 have c1 := hT.u b hb
 have c2 := hT.u c hc
 have c3 := hT.u d hd
 clear hT
 obtain ⟨sa, Ha⟩ : ∃ s, Hid (s = UB a) := ⟨_, rfl⟩
 rw [← Ha.out] at c0
 rw [← Ha.out]
 have la : sa < 256 := by rw [Ha.out]; exact UB_lt a
 clear Ha
 obtain ⟨sb, Hb⟩ : ∃ s, Hid (s = UB b) := ⟨_, rfl⟩
 rw [← Hb.out] at c1
 rw [← Hb.out]
 have lb : sb < 256 := by rw [Hb.out]; exact UB_lt b
 clear Hb
 obtain ⟨sc, Hc⟩ : ∃ s, Hid (s = UB c) := ⟨_, rfl⟩
 rw [← Hc.out] at c2
 rw [← Hc.out]
 have lc : sc < 256 := by rw [Hc.out]; exact UB_lt c
 clear Hc
 obtain ⟨sd, Hd⟩ : ∃ s, Hid (s = UB d) := ⟨_, rfl⟩
 rw [← Hd.out] at c3
 rw [← Hd.out]
 have ld : sd < 256 := by rw [Hd.out]; exact UB_lt d
 clear Hd
 go_enter Tryz.func274, Tryz.ntmps274
 go_wp2
 go_quiet ((go_at_call 174; exact Calls.quiet_of_same (word_ok _ _ _ _ la lb lc ld _)))
 go_wp2
 go_ret
 exact ⟨rfl, _, rfl⟩
theorem rotM8 {b m : Nat} {k : Int} {w : World} (hb : b < 256) (hm : Hid (m = MX b)) (hk : k = -8) : Calls Tryz.prog 108 #[.int .u32 m, .int .i64 k] w fun e w' => e = .returned (.int .u32 (M8 b : Nat)) ∧ w' = w := by
 rw [hm.out, hk]
 have hS := SB_lt b
 obtain ⟨l2, l3, _, _, _, _⟩ := x_lt ⟨SB b, hS⟩
 exact rotr8 l2 hS hS l3
theorem M8_lt {b : Nat} (hb : b < 256) : M8 b < 4294967296 := by
 have hS := SB_lt b
 obtain ⟨l2, l3, _, _, _, _⟩ := x_lt ⟨SB b, hS⟩
 exact wd_lt l3 l2 hS hS
theorem rotM16 {b m : Nat} {k : Int} {w : World} (hb : b < 256) (hm : Hid (m = MX b)) (hk : k = -16) : Calls Tryz.prog 108 #[.int .u32 m, .int .i64 k] w fun e w' => e = .returned (.int .u32 (M16 b : Nat)) ∧ w' = w := by
 rw [hm.out, hk]
 have hS := SB_lt b
 obtain ⟨l2, l3, _, _, _, _⟩ := x_lt ⟨SB b, hS⟩
 exact rotr16 l2 hS hS l3
theorem M16_lt {b : Nat} (hb : b < 256) : M16 b < 4294967296 := by
 have hS := SB_lt b
 obtain ⟨l2, l3, _, _, _, _⟩ := x_lt ⟨SB b, hS⟩
 exact wd_lt hS l3 l2 hS
theorem rotM24 {b m : Nat} {k : Int} {w : World} (hb : b < 256) (hm : Hid (m = MX b)) (hk : k = -24) : Calls Tryz.prog 108 #[.int .u32 m, .int .i64 k] w fun e w' => e = .returned (.int .u32 (M24 b : Nat)) ∧ w' = w := by
 rw [hm.out, hk]
 have hS := SB_lt b
 obtain ⟨l2, l3, _, _, _, _⟩ := x_lt ⟨SB b, hS⟩
 exact rotr24 l2 hS hS l3
theorem M24_lt {b : Nat} (hb : b < 256) : M24 b < 4294967296 := by
 have hS := SB_lt b
 obtain ⟨l2, l3, _, _, _, _⟩ := x_lt ⟨SB b, hS⟩
 exact wd_lt hS hS l3 l2
theorem MX_lt {b : Nat} (hb : b < 256) : MX b < 4294967296 := by
 have hS := SB_lt b
 obtain ⟨l2, l3, _, _, _, _⟩ := x_lt ⟨SB b, hS⟩
 exact wd_lt l2 hS hS l3
theorem rotU8 {b m : Nat} {k : Int} {w : World} (hb : b < 256) (hm : Hid (m = UX b)) (hk : k = -8) : Calls Tryz.prog 108 #[.int .u32 m, .int .i64 k] w fun e w' => e = .returned (.int .u32 (U8 b : Nat)) ∧ w' = w := by
 rw [hm.out, hk]
 obtain ⟨_, _, l9, l11, l13, l14⟩ := x_lt ⟨b, hb⟩
 exact rotr8 l14 l9 l13 l11
theorem U8_lt {b : Nat} (hb : b < 256) : U8 b < 4294967296 := by
 obtain ⟨_, _, l9, l11, l13, l14⟩ := x_lt ⟨b, hb⟩
 exact wd_lt l11 l14 l9 l13
theorem rotU16 {b m : Nat} {k : Int} {w : World} (hb : b < 256) (hm : Hid (m = UX b)) (hk : k = -16) : Calls Tryz.prog 108 #[.int .u32 m, .int .i64 k] w fun e w' => e = .returned (.int .u32 (U16 b : Nat)) ∧ w' = w := by
 rw [hm.out, hk]
 obtain ⟨_, _, l9, l11, l13, l14⟩ := x_lt ⟨b, hb⟩
 exact rotr16 l14 l9 l13 l11
theorem U16_lt {b : Nat} (hb : b < 256) : U16 b < 4294967296 := by
 obtain ⟨_, _, l9, l11, l13, l14⟩ := x_lt ⟨b, hb⟩
 exact wd_lt l13 l11 l14 l9
theorem rotU24 {b m : Nat} {k : Int} {w : World} (hb : b < 256) (hm : Hid (m = UX b)) (hk : k = -24) : Calls Tryz.prog 108 #[.int .u32 m, .int .i64 k] w fun e w' => e = .returned (.int .u32 (U24 b : Nat)) ∧ w' = w := by
 rw [hm.out, hk]
 obtain ⟨_, _, l9, l11, l13, l14⟩ := x_lt ⟨b, hb⟩
 exact rotr24 l14 l9 l13 l11
theorem U24_lt {b : Nat} (hb : b < 256) : U24 b < 4294967296 := by
 obtain ⟨_, _, l9, l11, l13, l14⟩ := x_lt ⟨b, hb⟩
 exact wd_lt l9 l13 l11 l14
theorem UX_lt {b : Nat} (hb : b < 256) : UX b < 4294967296 := by
 obtain ⟨_, _, l9, l11, l13, l14⟩ := x_lt ⟨b, hb⟩
 exact wd_lt l14 l9 l13 l11
theorem xor_lt32 {a b : Nat} (ha : a < 4294967296) (hb : b < 4294967296) : Nat.xor a b < 4294967296 := Nat.xor_lt_two_pow (n := 32) ha hb
theorem xor4 {a b c d : Nat} (ha : a < 4294967296) (hb : b < 4294967296) (hc : c < 4294967296) (hd : d < 4294967296) :
  bits .xor .u32 (bits .xor .u32 (bits .xor .u32 (a : Int) b) c) d = (Nat.xor (Nat.xor (Nat.xor a b) c) d : Nat) := by
 rw [xor32 _ _ ha hb, xor32 _ _ (xor_lt32 ha hb) hc, xor32 _ _ (xor_lt32 (xor_lt32 ha hb) hc) hd]
set_option maxHeartbeats 1600000 in
theorem mix_ok (g o : Nat) (x0 x1 x2 x3 : Int) (a b c d : Nat) (w : World) (ha : a < 256) (hb : b < 256) (hc : c < 256) (hd : d < 256)
  (h0 : x0 / 16777216 % 256 = a) (h1 : x1 / 65536 % 256 = b) (h2 : x2 / 256 % 256 = c) (h3 : x3 % 256 = d) (hT : Tab w g o) :
  Calls Tryz.prog 118 #[.pointer (some ⟨g, o, none⟩), .int .u32 x0, .int .u32 x1, .int .u32 x2, .int .u32 x3] w fun e w' => e = .returned (.int .u32 (mixc a b c d : Nat)) ∧ ∃ m, w' = w.drewN m := by
 have c0 := hT.m a ha
 have c1 := hT.m b hb
 have c2 := hT.m c hc
 have c3 := hT.m d hd
 clear hT
 obtain ⟨ma, Ha⟩ : ∃ s, Hid (s = MX a) := ⟨_, rfl⟩
 rw [← Ha.out] at c0
 obtain ⟨mb, Hb⟩ : ∃ s, Hid (s = MX b) := ⟨_, rfl⟩
 rw [← Hb.out] at c1
 obtain ⟨mc, Hc⟩ : ∃ s, Hid (s = MX c) := ⟨_, rfl⟩
 rw [← Hc.out] at c2
 obtain ⟨md, Hd⟩ : ∃ s, Hid (s = MX d) := ⟨_, rfl⟩
 rw [← Hd.out] at c3
 go_enter Tryz.func118, Tryz.ntmps118
 go_wp2
 go_quiet ((go_at_call 108; (first | exact Calls.quiet_of_same (rotM8 hb Hb (by decide)) | exact Calls.quiet_of_same (rotM16 hc Hc (by decide)) | exact Calls.quiet_of_same (rotM24 hd Hd (by decide)))))
 go_wp2
 go_ret
 refine ⟨ret_int ?_, _, rfl⟩
 rw [Ha.out]
 have h := xor4 (a := MX a) (b := M8 b) (c := M16 c) (d := M24 d) (MX_lt ha) (M8_lt hb) (M16_lt hc) (M24_lt hd)
 rw [h]
 unfold mixc
 exact Eq.refl _
set_option maxHeartbeats 1600000 in
theorem unmixed_ok (g o : Nat) (x : Int) (a b c d : Nat) (w : World) (ha : a < 256) (hb : b < 256) (hc : c < 256) (hd : d < 256)
  (h0 : x / 16777216 % 256 = a) (h1 : x / 65536 % 256 = b) (h2 : x / 256 % 256 = c) (h3 : x % 256 = d) (hT : Tab w g o) :
  Calls Tryz.prog 275 #[.pointer (some ⟨g, o, none⟩), .int .u32 x] w fun e w' => e = .returned (.int .u32 (unmc a b c d : Nat)) ∧ ∃ m, w' = w.drewN m := by
 have c0 := hT.n a ha
 have c1 := hT.n b hb
 have c2 := hT.n c hc
 have c3 := hT.n d hd
 clear hT
 obtain ⟨ma, Ha⟩ : ∃ s, Hid (s = UX a) := ⟨_, rfl⟩
 rw [← Ha.out] at c0
 obtain ⟨mb, Hb⟩ : ∃ s, Hid (s = UX b) := ⟨_, rfl⟩
 rw [← Hb.out] at c1
 obtain ⟨mc, Hc⟩ : ∃ s, Hid (s = UX c) := ⟨_, rfl⟩
 rw [← Hc.out] at c2
 obtain ⟨md, Hd⟩ : ∃ s, Hid (s = UX d) := ⟨_, rfl⟩
 rw [← Hd.out] at c3
 go_enter Tryz.func275, Tryz.ntmps275
 go_wp2
 go_quiet ((go_at_call 108; (first | exact Calls.quiet_of_same (rotU8 hb Hb (by decide)) | exact Calls.quiet_of_same (rotU16 hc Hc (by decide)) | exact Calls.quiet_of_same (rotU24 hd Hd (by decide)))))
 go_wp2
 go_ret
 refine ⟨ret_int ?_, _, rfl⟩
 rw [Ha.out]
 have h := xor4 (a := UX a) (b := U8 b) (c := U16 c) (d := U24 d) (UX_lt ha) (U8_lt hb) (U16_lt hc) (U24_lt hd)
 rw [h]
 unfold unmc
 exact Eq.refl _
end Go.Proofs.YtcnikfikpnnblaaGreatDoor
