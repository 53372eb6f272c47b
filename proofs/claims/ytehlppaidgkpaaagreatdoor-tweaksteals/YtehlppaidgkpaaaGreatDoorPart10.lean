import Derived.Test.YtehlppaidgkpaaaGreatDoorBoth
import Derived.Deep.RegionHeld3
import Derived.Deep.QuietTactic
import Derived.BigQuiet
import Derived.BigRegion
import Derived.Test.YtehlppaidgkpaaaGreatDoorDgWide
import Derived.Test.YtehlppaidgkpaaaGreatDoorPart05
namespace Go.Proofs.YtehlppaidgkpaaaGreatDoor
open Go.RowKit
set_option linter.unusedVariables false
theorem refTimes (a b : Nat) (ha : a < 256) (hb : b < 256) (w : World) : Calls Tryz.prog 113 #[.int .u8 a, .int .u8 b] w fun e w' => e = .returned (.int .u8 (tmsN 8 0 a b : Nat)) ∧ w' = w := by
  rw [← both_eq a b ha hb]
  exact refTimes_ok a b ha hb w
theorem rot8_core (x k s : Int) (w : World) (hb : bits .and .u64 (IntKind.u64.wrap k) 7 = s) (h0 : 0 ≤ s) (h1 : s ≤ 8) (h2 : IntKind.u64.wrap (8 - s) = 8 - s) : Calls Tryz.prog 164 #[.int .u8 x, .int .i64 k] w fun e w' => e = .returned (.int .u8 (bits .or .u8 (x * 2 ^ s.toNat % 256) (x / 2 ^ (8 - s).toNat))) ∧ w' = w := by
  have h3 : 0 ≤ 8 - s := by omega
  go_enter Tryz.func164, Tryz.ntmps164
  go_wp2
  go_ret
  exact ⟨rfl, rfl⟩
def rotN (x s : Nat) : Nat := Nat.lor (Nat.mod (Nat.mul x (Nat.pow 2 s)) 256) (Nat.div x (Nat.pow 2 (Nat.sub 8 s)))
theorem rot_all : ∀ x : Fin 256, ∀ s : Fin 8, bits .or .u8 ((x.1 : Int) * 2 ^ s.1 % 256) ((x.1 : Int) / 2 ^ (8 - s.1)) = (rotN x.1 s.1 : Nat) := by decide +kernel
theorem rot_k : ∀ s : Fin 8, bits .and .u64 (IntKind.u64.wrap (s.1 : Int)) 7 = (s.1 : Int) ∧ IntKind.u64.wrap (8 - (s.1 : Int)) = 8 - (s.1 : Int) := by decide +kernel
theorem rot8 {x : Nat} {w : World} (s : Nat) (hx : x < 256) (hs : s < 8) : Calls Tryz.prog 164 #[.int .u8 x, .int .i64 s] w fun e w' => e = .returned (.int .u8 (rotN x s : Nat)) ∧ w' = w := by
  have h := rot8_core x s s w (rot_k ⟨s, hs⟩).1 (by omega) (by omega) (rot_k ⟨s, hs⟩).2
  have e : bits .or .u8 ((x : Int) * 2 ^ (s : Int).toNat % 256) ((x : Int) / 2 ^ (8 - (s : Int)).toNat) = (rotN x s : Nat) := by
    rw [show (8 - (s : Int)).toNat = 8 - s by omega, show (s : Int).toNat = s by omega]
    exact rot_all ⟨x, hx⟩ ⟨s, hs⟩
  rw [e] at h
  exact h
theorem rot_ex {x : Nat} {w : World} (s : Nat) (hx : x < 256) (hs : s < 8) : Calls Tryz.prog 164 #[.int .u8 x, .int .i64 s] w fun e w' => ∃ y : Nat, Hid (y = rotN x s) ∧ e = .returned (.int .u8 y) ∧ w' = w :=
  (rot8 s hx hs).mono fun e w' ⟨h1, h2⟩ => ⟨_, rfl, h1, h2⟩
def sprN (y : Nat) : Nat := Nat.xor (Nat.xor (Nat.xor (Nat.xor (Nat.xor y (rotN y 1)) (rotN y 2)) (rotN y 3)) (rotN y 4)) 99
theorem spr_all : ∀ y : Fin 256, bits .xor .u8 (bits .xor .u8 (bits .xor .u8 (bits .xor .u8 (bits .xor .u8 (y.1 : Int) (rotN y.1 1 : Nat)) (rotN y.1 2 : Nat)) (rotN y.1 3 : Nat)) (rotN y.1 4 : Nat)) 99 = (sprN y.1 : Nat) := by decide +kernel
theorem spr_lt : ∀ y : Fin 256, sprN y.1 < 256 := by decide +kernel
theorem spread_ok (y : Nat) (hy : y < 256) (w : World) : Calls Tryz.prog 116 #[.int .u8 y] w fun e w' => ∃ z : Nat, z < 256 ∧ Hid (z = sprN y) ∧ e = .returned (.int .u8 z) ∧ w' = w := by
  go_enter Tryz.func116, Tryz.ntmps116
  go_wp2_with (first | (go_at_call 164; (refine (rot_ex 1 hy (by decide)).mono ?_)))
  rintro e1 w1 ⟨y1, H1, rfl, hw1⟩
  obtain rfl := hw1.symm
  go_wp2_with (first | (go_at_call 164; (refine (rot_ex 2 hy (by decide)).mono ?_)))
  rintro e1 w1 ⟨y2, H2, rfl, hw1⟩
  obtain rfl := hw1.symm
  go_wp2_with (first | (go_at_call 164; (refine (rot_ex 3 hy (by decide)).mono ?_)))
  rintro e1 w1 ⟨y3, H3, rfl, hw1⟩
  obtain rfl := hw1.symm
  go_wp2_with (first | (go_at_call 164; (refine (rot_ex 4 hy (by decide)).mono ?_)))
  rintro e1 w1 ⟨y4, H4, rfl, hw1⟩
  obtain rfl := hw1.symm
  go_wp2
  go_ret
  refine ⟨sprN y, spr_lt ⟨y, hy⟩, rfl, ret_int ?_, rfl⟩
  rw [H1.out, H2.out, H3.out, H4.out]
  exact spr_all ⟨y, hy⟩
def bitN (y i : Nat) : Nat := Nat.mod (Nat.xor (Nat.xor (Nat.xor (Nat.xor (Nat.xor (y / 2 ^ i) (y / 2 ^ ((i + 4) % 8))) (y / 2 ^ ((i + 5) % 8))) (y / 2 ^ ((i + 6) % 8))) (y / 2 ^ ((i + 7) % 8))) (99 / 2 ^ i)) 2
def sumN (y : Nat) : Nat → Nat
  | 0 => 0
  | i + 1 => sumN y i + bitN y i * 2 ^ i
theorem sum_spr : ∀ y : Fin 256, sumN y.1 8 = sprN y.1 := by decide +kernel
theorem bit_step0 : ∀ y : Fin 256, wrap64 ((sumN y.1 0 : Nat) + wrap64 ((bits .xor .i64 (bits .xor .i64 (bits .xor .i64 (bits .xor .i64 (bits .xor .i64 (y.1 : Int) ((y.1 : Int) / 16)) ((y.1 : Int) / 32)) ((y.1 : Int) / 64)) ((y.1 : Int) / 128)) 99).tmod 2)) = (sumN y.1 1 : Nat) := by decide +kernel
theorem bit_step1 : ∀ y : Fin 256, wrap64 ((sumN y.1 1 : Nat) + wrap64 ((bits .xor .i64 (bits .xor .i64 (bits .xor .i64 (bits .xor .i64 (bits .xor .i64 ((y.1 : Int) / 2) ((y.1 : Int) / 32)) ((y.1 : Int) / 64)) ((y.1 : Int) / 128)) (y.1 : Int)) 49).tmod 2 * 2)) = (sumN y.1 2 : Nat) := by decide +kernel
theorem bit_step2 : ∀ y : Fin 256, wrap64 ((sumN y.1 2 : Nat) + wrap64 ((bits .xor .i64 (bits .xor .i64 (bits .xor .i64 (bits .xor .i64 (bits .xor .i64 ((y.1 : Int) / 4) ((y.1 : Int) / 64)) ((y.1 : Int) / 128)) (y.1 : Int)) ((y.1 : Int) / 2)) 24).tmod 2 * 4)) = (sumN y.1 3 : Nat) := by decide +kernel
theorem bit_step3 : ∀ y : Fin 256, wrap64 ((sumN y.1 3 : Nat) + wrap64 ((bits .xor .i64 (bits .xor .i64 (bits .xor .i64 (bits .xor .i64 (bits .xor .i64 ((y.1 : Int) / 8) ((y.1 : Int) / 128)) (y.1 : Int)) ((y.1 : Int) / 2)) ((y.1 : Int) / 4)) 12).tmod 2 * 8)) = (sumN y.1 4 : Nat) := by decide +kernel
theorem bit_step4 : ∀ y : Fin 256, wrap64 ((sumN y.1 4 : Nat) + wrap64 ((bits .xor .i64 (bits .xor .i64 (bits .xor .i64 (bits .xor .i64 (bits .xor .i64 ((y.1 : Int) / 16) (y.1 : Int)) ((y.1 : Int) / 2)) ((y.1 : Int) / 4)) ((y.1 : Int) / 8)) 6).tmod 2 * 16)) = (sumN y.1 5 : Nat) := by decide +kernel
theorem bit_step5 : ∀ y : Fin 256, wrap64 ((sumN y.1 5 : Nat) + wrap64 ((bits .xor .i64 (bits .xor .i64 (bits .xor .i64 (bits .xor .i64 (bits .xor .i64 ((y.1 : Int) / 32) ((y.1 : Int) / 2)) ((y.1 : Int) / 4)) ((y.1 : Int) / 8)) ((y.1 : Int) / 16)) 3).tmod 2 * 32)) = (sumN y.1 6 : Nat) := by decide +kernel
theorem bit_step6 : ∀ y : Fin 256, wrap64 ((sumN y.1 6 : Nat) + wrap64 ((bits .xor .i64 (bits .xor .i64 (bits .xor .i64 (bits .xor .i64 (bits .xor .i64 ((y.1 : Int) / 64) ((y.1 : Int) / 4)) ((y.1 : Int) / 8)) ((y.1 : Int) / 16)) ((y.1 : Int) / 32)) 1).tmod 2 * 64)) = (sumN y.1 7 : Nat) := by decide +kernel
theorem bit_step7 : ∀ y : Fin 256, wrap64 ((sumN y.1 7 : Nat) + wrap64 ((bits .xor .i64 (bits .xor .i64 (bits .xor .i64 (bits .xor .i64 (bits .xor .i64 ((y.1 : Int) / 128) ((y.1 : Int) / 8)) ((y.1 : Int) / 16)) ((y.1 : Int) / 32)) ((y.1 : Int) / 64)) 0).tmod 2 * 128)) = (sumN y.1 8 : Nat) := by decide +kernel
theorem refBits_ok (y : Nat) (hy : y < 256) (w : World) : Calls Tryz.prog 162 #[.int .i64 y] w fun e w' => ∃ z : Nat, z < 256 ∧ Hid (z = sprN y) ∧ e = .returned (.int .u8 z) ∧ w' = w := by
  go_enter Tryz.func162, Tryz.ntmps162
  go_wp2
  go_loopw [3, 4] (fun vs i wr => ∃ k : Nat, k ≤ 8 ∧ i = .int .i64 k ∧ vs = .int .i64 (sumN y k : Nat) ∧ wr = w) (fun _ i _ => 8 - (intOf i).toNat)
  case atStart => exact ⟨0, by omega, rfl, rfl, rfl⟩
  case round =>
    obtain ⟨k, hk, rfl, rfl, hw⟩ := hrel
    obtain rfl := hw.symm
    have h9 : k = 0 ∨ k = 1 ∨ k = 2 ∨ k = 3 ∨ k = 4 ∨ k = 5 ∨ k = 6 ∨ k = 7 ∨ k = 8 := by omega
    clear hk
    rcases h9 with rfl | rfl | rfl | rfl | rfl | rfl | rfl | rfl | rfl
    · go_wp2
      exact ⟨⟨1, by omega, rfl, val_eq (bit_step0 ⟨y, hy⟩), trivial⟩, by decide +kernel⟩
    · go_wp2
      exact ⟨⟨2, by omega, rfl, val_eq (bit_step1 ⟨y, hy⟩), trivial⟩, by decide +kernel⟩
    · go_wp2
      exact ⟨⟨3, by omega, rfl, val_eq (bit_step2 ⟨y, hy⟩), trivial⟩, by decide +kernel⟩
    · go_wp2
      exact ⟨⟨4, by omega, rfl, val_eq (bit_step3 ⟨y, hy⟩), trivial⟩, by decide +kernel⟩
    · go_wp2
      exact ⟨⟨5, by omega, rfl, val_eq (bit_step4 ⟨y, hy⟩), trivial⟩, by decide +kernel⟩
    · go_wp2
      exact ⟨⟨6, by omega, rfl, val_eq (bit_step5 ⟨y, hy⟩), trivial⟩, by decide +kernel⟩
    · go_wp2
      exact ⟨⟨7, by omega, rfl, val_eq (bit_step6 ⟨y, hy⟩), trivial⟩, by decide +kernel⟩
    · go_wp2
      exact ⟨⟨8, by omega, rfl, val_eq (bit_step7 ⟨y, hy⟩), trivial⟩, by decide +kernel⟩
    · go_wp2
      go_ret
      refine ⟨sprN y, spr_lt ⟨y, hy⟩, rfl, ret_int ?_, rfl⟩
      have h1 := sum_spr ⟨y, hy⟩
      have h2 := spr_lt ⟨y, hy⟩
      simp only at h1 h2
      omega
end Go.Proofs.YtehlppaidgkpaaaGreatDoor
namespace Go.Proofs.YtehlppaidgkpaaaGreatDoor
open Go.RowKit
set_option linter.unusedVariables false
/-- Four bytes as a word, the first one highest. -/
def wd (a b c d : Nat) : Nat := a * 16777216 + b * 65536 + c * 256 + d
theorem wd_lt {a b c d : Nat} (ha : a < 256) (hb : b < 256) (hc : c < 256) (hd : d < 256) : wd a b c d < 4294967296 := by unfold wd; omega
theorem wraps_u32 (n : Int) (h₀ : 0 ≤ n) (h₁ : n < 2 ^ 32) : IntKind.u32.wrap n = n := by rw [IntKind.wrap_u32]; omega
theorem xor32 (a b : Nat) (ha : a < 4294967296) (hb : b < 4294967296) : bits .xor .u32 (a : Int) b = (Nat.xor a b : Nat) := bits_xor .u32 32 (by decide) wraps_u32 a b ha hb
theorem joins (i x y : Nat) (hx : x % 2 ^ i = 0) (hx1 : x < 4294967296) (hy : y < 2 ^ i) (hi : i ≤ 32) (hxy : x + y < 4294967296) : bits .or .u32 (x : Int) y = ((x + y : Nat) : Int) := by
  have := bits_join .u32 32 (by decide) wraps_u32 i x y (by omega) (by exact_mod_cast hx) (by omega) (by omega) (by exact_mod_cast hy) (by omega)
  simpa using this
theorem word_ok (a b c d : Nat) (ha : a < 256) (hb : b < 256) (hc : c < 256) (hd : d < 256) (w : World) : Calls Tryz.prog 123 #[.int .u8 a, .int .u8 b, .int .u8 c, .int .u8 d] w fun e w' => e = .returned (.int .u32 (wd a b c d : Nat)) ∧ w' = w := by
  go_enter Tryz.func123, Tryz.ntmps123
  go_wp2
  go_ret
  refine ⟨ret_int ?_, rfl⟩
  have e1 := joins 24 (a * 16777216) (b * 65536) (by omega) (by omega) (by omega) (by omega) (by omega)
  have e2 := joins 16 (a * 16777216 + b * 65536) (c * 256) (by omega) (by omega) (by omega) (by omega) (by omega)
  have e3 := joins 8 (a * 16777216 + b * 65536 + c * 256) d (by omega) (by omega) (by omega) (by omega) (by omega)
  rw [show ((a : Int) * 16777216) = ((a * 16777216 : Nat) : Int) by omega, show ((b : Int) * 65536) = ((b * 65536 : Nat) : Int) by omega, show ((c : Int) * 256) = ((c * 256 : Nat) : Int) by omega, e1, e2, e3]
  unfold wd
  omega
theorem rot32_core (x k s : Int) (w : World) (hb : bits .and .u64 (IntKind.u64.wrap k) 31 = s) (h0 : 0 ≤ s) (h1 : s ≤ 32) (hs : IntKind.u64.wrap (32 - s) = 32 - s) : Calls Tryz.prog 78 #[.int .u32 x, .int .i64 k] w fun e w' => e = .returned (.int .u32 (bits .or .u32 (x * 2 ^ s.toNat % 4294967296) (x / 2 ^ (32 - s).toNat))) ∧ w' = w := by
  have h2 : 0 ≤ 32 - s := by omega
  go_enter Tryz.func78, Tryz.ntmps78
  go_wp2
  go_ret
  exact ⟨rfl, rfl⟩
theorem rotr8 {a b c d : Nat} {w : World} (ha : a < 256) (hb : b < 256) (hc : c < 256) (hd : d < 256) : Calls Tryz.prog 78 #[.int .u32 (wd a b c d : Nat), .int .i64 (-8)] w fun e w' => e = .returned (.int .u32 (wd d a b c : Nat)) ∧ w' = w := by
  have h := rot32_core (wd a b c d : Nat) (-8) 24 w (by decide +kernel) (by decide) (by decide) (by decide +kernel)
  refine h.mono fun e w' ⟨h1, h2⟩ => ⟨h1.trans (ret_int ?_), h2⟩
  rw [show (24 : Int).toNat = 24 from rfl, show ((32 : Int) - 24).toNat = 8 from rfl]
  have := joins 24 (d * 16777216) (a * 65536 + b * 256 + c) (by omega) (by omega) (by omega) (by omega) (by omega)
  rw [show ((wd a b c d : Nat) : Int) * 2 ^ 24 % 4294967296 = ((d * 16777216 : Nat) : Int) by unfold wd; omega, show ((wd a b c d : Nat) : Int) / 2 ^ 8 = ((a * 65536 + b * 256 + c : Nat) : Int) by unfold wd; omega, this]
  unfold wd
  omega
theorem rotr16 {a b c d : Nat} {w : World} (ha : a < 256) (hb : b < 256) (hc : c < 256) (hd : d < 256) : Calls Tryz.prog 78 #[.int .u32 (wd a b c d : Nat), .int .i64 (-16)] w fun e w' => e = .returned (.int .u32 (wd c d a b : Nat)) ∧ w' = w := by
  have h := rot32_core (wd a b c d : Nat) (-16) 16 w (by decide +kernel) (by decide) (by decide) (by decide +kernel)
  refine h.mono fun e w' ⟨h1, h2⟩ => ⟨h1.trans (ret_int ?_), h2⟩
  rw [show (16 : Int).toNat = 16 from rfl, show ((32 : Int) - 16).toNat = 16 from rfl]
  have := joins 16 (c * 16777216 + d * 65536) (a * 256 + b) (by omega) (by omega) (by omega) (by omega) (by omega)
  rw [show ((wd a b c d : Nat) : Int) * 2 ^ 16 % 4294967296 = ((c * 16777216 + d * 65536 : Nat) : Int) by unfold wd; omega, show ((wd a b c d : Nat) : Int) / 2 ^ 16 = ((a * 256 + b : Nat) : Int) by unfold wd; omega, this]
  unfold wd
  omega
theorem rotr24 {a b c d : Nat} {w : World} (ha : a < 256) (hb : b < 256) (hc : c < 256) (hd : d < 256) : Calls Tryz.prog 78 #[.int .u32 (wd a b c d : Nat), .int .i64 (-24)] w fun e w' => e = .returned (.int .u32 (wd b c d a : Nat)) ∧ w' = w := by
  have h := rot32_core (wd a b c d : Nat) (-24) 8 w (by decide +kernel) (by decide) (by decide) (by decide +kernel)
  refine h.mono fun e w' ⟨h1, h2⟩ => ⟨h1.trans (ret_int ?_), h2⟩
  rw [show (8 : Int).toNat = 8 from rfl, show ((32 : Int) - 8).toNat = 24 from rfl]
  have := joins 8 (b * 16777216 + c * 65536 + d * 256) (a) (by omega) (by omega) (by omega) (by omega) (by omega)
  rw [show ((wd a b c d : Nat) : Int) * 2 ^ 8 % 4294967296 = ((b * 16777216 + c * 65536 + d * 256 : Nat) : Int) by unfold wd; omega, show ((wd a b c d : Nat) : Int) / 2 ^ 24 = ((a : Nat) : Int) by unfold wd; omega, this]
  unfold wd
  omega
theorem rotl8 {a b c d : Nat} {w : World} (ha : a < 256) (hb : b < 256) (hc : c < 256) (hd : d < 256) : Calls Tryz.prog 78 #[.int .u32 (wd a b c d : Nat), .int .i64 (8)] w fun e w' => e = .returned (.int .u32 (wd b c d a : Nat)) ∧ w' = w := by
  have h := rot32_core (wd a b c d : Nat) (8) 8 w (by decide +kernel) (by decide) (by decide) (by decide +kernel)
  refine h.mono fun e w' ⟨h1, h2⟩ => ⟨h1.trans (ret_int ?_), h2⟩
  rw [show (8 : Int).toNat = 8 from rfl, show ((32 : Int) - 8).toNat = 24 from rfl]
  have := joins 8 (b * 16777216 + c * 65536 + d * 256) (a) (by omega) (by omega) (by omega) (by omega) (by omega)
  rw [show ((wd a b c d : Nat) : Int) * 2 ^ 8 % 4294967296 = ((b * 16777216 + c * 65536 + d * 256 : Nat) : Int) by unfold wd; omega, show ((wd a b c d : Nat) : Int) / 2 ^ 24 = ((a : Nat) : Int) by unfold wd; omega, this]
  unfold wd
  omega
/-- S and its inverse, out of one number each. -/
def SB (b : Nat) : Nat := Nat.mod (Nat.shiftRight 2869618975290639062594974519597816386035077209210385677284518162336985023502962151465775969507961862820568736543004676439868535775640188584098917533413284844376797297285941524888791401501466624530423689326528054213168201056672989590893583853414110162539122864583953358348775951166211353578440977400428507475679327181038682772945817200201960445064847785221508011893952350688324234443749897213621340677040612747745615276448919507935121141307752692835344166708617454322778699219895865633266409040561742768581056182730443599545881830075941537620590442514083341749674612746994879540562701631131184186066652929592955206755 (Nat.mul 8 b)) 256
def UB (b : Nat) : Nat := Nat.mod (Nat.shiftRight 15785769749828884342349381641981096363179738000380205650940338083111619982568718420166261191398703005748170232611805704157196303061330872280026969925224128193193768962594508714770967646139604422718174787315048227180018877623049221087186576642191304514338137614235628241783007805847129270530950856841486400764657112140097236091222567730363620332611309375046737430203438830593833719428588466121688739068564421474273450162064709239629809347626728710072303178617319436726577534667237755444692000788692193415136619289353224918429728194544458916874716857284226411602766869706570927007876872095880586785662942963508062062930 (Nat.mul 8 b)) 256
theorem SB_lt (b : Nat) : SB b < 256 := Nat.mod_lt _ (by decide)
theorem UB_lt (b : Nat) : UB b < 256 := Nat.mod_lt _ (by decide)
theorem UB_SB : ∀ b : Fin 256, UB (SB b.1) = b.1 ∧ SB (UB b.1) = b.1 := by decide +kernel
/-- Products by 3, 9, 11, 13, 14. -/
def x2 (a : Nat) : Nat := dblN a
def x3 (a : Nat) : Nat := Nat.xor (dblN a) a
def x9 (a : Nat) : Nat := Nat.xor (dblN (dblN (dblN a))) a
def x11 (a : Nat) : Nat := Nat.xor (Nat.xor (dblN (dblN (dblN a))) (dblN a)) a
def x13 (a : Nat) : Nat := Nat.xor (Nat.xor (dblN (dblN (dblN a))) (dblN (dblN a))) a
def x14 (a : Nat) : Nat := Nat.xor (Nat.xor (dblN (dblN (dblN a))) (dblN (dblN a))) (dblN a)
theorem x_lt : ∀ a : Fin 256, x2 a.1 < 256 ∧ x3 a.1 < 256 ∧ x9 a.1 < 256 ∧ x11 a.1 < 256 ∧ x13 a.1 < 256 ∧ x14 a.1 < 256 := by decide +kernel
/-- The columns' tables. -/
def MX (b : Nat) : Nat := wd (x2 (SB b)) (SB b) (SB b) (x3 (SB b))
def UX (b : Nat) : Nat := wd (x14 b) (x9 b) (x13 b) (x11 b)
/-- A column through S and multiplied; one multiplied backwards. -/
def M8 (b : Nat) : Nat := wd (x3 (SB b)) (x2 (SB b)) (SB b) (SB b)
def M16 (b : Nat) : Nat := wd (SB b) (x3 (SB b)) (x2 (SB b)) (SB b)
def M24 (b : Nat) : Nat := wd (SB b) (SB b) (x3 (SB b)) (x2 (SB b))
def mixc (a b c d : Nat) : Nat := Nat.xor (Nat.xor (Nat.xor (MX a) (M8 b)) (M16 c)) (M24 d)
/-- The tables of a cipher at g, o. -/
structure Tab (w : World) (g o : Nat) : Prop where
  s : ∀ b, b < 256 → w.cell? ⟨g, o + 61 + b, none⟩ = some (.int .u8 (SB b : Nat))
  u : ∀ b, b < 256 → w.cell? ⟨g, o + 317 + b, none⟩ = some (.int .u8 (UB b : Nat))
  m : ∀ b, b < 256 → w.cell? ⟨g, o + 573 + b, none⟩ = some (.int .u32 (MX b : Nat))
  n : ∀ b, b < 256 → w.cell? ⟨g, o + 829 + b, none⟩ = some (.int .u32 (UX b : Nat))
end Go.Proofs.YtehlppaidgkpaaaGreatDoor
namespace Go.Proofs.YtehlppaidgkpaaaGreatDoor.Dg
open Go.RowKit
set_option linter.unusedVariables false

/-- The table of the cubes' roots, as a function. -/
def cubesL : List Int := [4794697086780616226, 8158064640168781261, 13096744586834688815, 16840607885511220156, 4131703408338449720, 6480981068601479193, 10538285296894168987, 12329834152419229976, 15566598209576043074, 1334009975649890238, 2608012711638119052, 6128411473006802146, 8268148722764581231, 9286055187155687089, 11230858885718282805, 13951009754708518548, 16472876342353939154, 17275323862435702243, 1135362057144423861, 2597628984639134821, 3308224258029322869, 5365058923640841347, 6679025012923562964, 8573033837759648693, 10970295158949994411, 12119686244451234320, 12683024718118986047, 13788192230050041572, 14330467153632333762, 15395433587784984357, 489312712824947311, 1452737877330783856, 2861767655752347644, 3322285676063803686, 5560940570517711597, 5996557281743188959, 7280758554555802590, 8532644243296465576, 9350256976987008742, 10552545826968843579, 11727347734174303076, 12113106623233404929, 14000437183269869457, 14369950271660146224, 15101387698204529176, 15463397548674623760, 17586052441742319658, 1182934255886127544, 1847814050463011016, 2177327727835720531, 2830643537854262169, 3796741975233480872, 4115178125766777443, 5681478168544905931, 6601373596472566643, 7507060721942968483, 8399075790359081724, 8693463985226723168, 9568029438360202098, 10144078919501101548, 10430055236837252648, 11840083180663258601, 13761210420658862357, 14299343276471374635, 14566680578165727644, 15097957966210449927, 16922976911328602910, 17689382322260857208, 500013540394364858, 748580250866718886, 1242879168328830382, 1977374033974150939, 2944078676154940804, 3659926193048069267, 4368137639120453308, 4836135668995329356, 5532061633213252278, 6448918945643986474, 6902733635092675308, 7801388544844847127]
def rootsL : List Int := [7640891576956012808, 13503953896175478587, 4354685564936845355, 11912009170470909681, 5840696475078001361, 11170449401992604703, 2270897969802886507, 6620516959819538809, 14680500436340154072, 7105036623409894663, 10473403895298186519, 1526699215303891257, 7436329637833083697, 10282925794625328401, 15784041429090275239, 5167115440072839076]
def cubeAt (t : Nat) : Int := cubesL.getD t 0
def rootAt (t : Nat) : Int := rootsL.getD t 0
/-- The two tables lie where the program laid them. -/
structure Tables (w : World) : Prop where
  cubes : ∀ t, t < 80 → w.cell? ⟨5, t, none⟩ = some (.int .u64 (cubeAt t))
  roots : ∀ t, t < 16 → w.cell? ⟨4, t, none⟩ = some (.int .u64 (rootAt t))
theorem Tables.kept {w w' : World} (h : Tables w) (hb : ∀ k, k < 6 → w'.heap[k]? = w.heap[k]?) : Tables w' :=
  ⟨fun t ht => by rw [World.cell?_of_block (w := w) (hb 5 (by omega))]; exact h.cubes t ht, fun t ht => by rw [World.cell?_of_block (w := w) (hb 4 (by omega))]; exact h.roots t ht⟩
theorem Tables.size {w : World} (h : Tables w) : 6 ≤ w.heap.size := lt_of_cell (h.cubes 0 (by omega))
theorem Tables.below {w w' : World} {B : Nat} (h : Tables w) (b : Below B w w') (hB : 6 ≤ B) : Tables w' := h.kept fun k hk => b.block k (by omega)
theorem Tables.touch {w w' : World} {g o n : Nat} (h : Tables w) (b : Touch w w' g o n) (hg : 6 ≤ g) : Tables w' := h.kept fun k hk => b.block k (by have := h.size; omega) (by omega)

def bsz (wd : Bool) : Nat := if wd then 128 else 64
def fnOf (wd : Bool) : FuncId := if wd then 93 else 92
def fnV (wd : Bool) : Value := .func (.func (fnOf wd)) #[] #[]
/-- The words behind n blocks. -/
def TT (wd : Bool) (B : Nat → Int) (s : Eight) (n : Nat) : Eight := if wd then takes64 cubeAt B s n else takes32 cubeAt B s n
theorem bsz_pos (wd : Bool) : 0 < bsz wd := by cases wd <;> decide

theorem TT_zero (wd : Bool) (B : Nat → Int) (s : Eight) : TT wd B s 0 = s := by cases wd <;> rfl
theorem sched32_congr {B B' : Nat → Int} (h : ∀ j, j < 64 → B j = B' j) : ∀ n t, t < n → t < 64 → sched32 B t = sched32 B' t
  | 0, t, h0, _ => by omega
  | n + 1, t, h0, h1 => by
    rw [sched32.eq_def B t, sched32.eq_def B' t]
    by_cases h16 : t < 16
    · rw [if_pos h16, if_pos h16]
      simp only [word32]
      rw [h (4 * t) (by omega), h (4 * t + 1) (by omega), h (4 * t + 2) (by omega), h (4 * t + 3) (by omega)]
    · rw [if_neg h16, if_neg h16, sched32_congr h n (t - 2) (by omega) (by omega), sched32_congr h n (t - 7) (by omega) (by omega), sched32_congr h n (t - 15) (by omega) (by omega), sched32_congr h n (t - 16) (by omega) (by omega)]
theorem rounds32_congr {C W W' : Nat → Int} (s : Eight) : ∀ n, (∀ t, t < n → W t = W' t) → rounds32 C W n s = rounds32 C W' n s
  | 0, _ => rfl
  | n + 1, h => by rw [rounds32, rounds32, rounds32_congr s n (fun t ht => h t (by omega)), h n (by omega)]
theorem block32_congr {C B B' : Nat → Int} (s : Eight) (h : ∀ j, j < 64 → B j = B' j) : block32 C B s = block32 C B' s := by
  rw [block32, block32, rounds32_congr _ 64 (fun t ht => sched32_congr h 64 t ht ht)]
theorem part64_congr {B B' : Nat → Int} (t : Nat) : ∀ k, (∀ j, j < k → B (8 * t + j) = B' (8 * t + j)) → part64 B t k = part64 B' t k
  | 0, _ => rfl
  | k + 1, h => by rw [part64, part64, part64_congr t k (fun j hj => h j (by omega)), h k (by omega)]
theorem sched64_congr {B B' : Nat → Int} (h : ∀ j, j < 128 → B j = B' j) : ∀ n t, t < n → t < 80 → sched64 B t = sched64 B' t
  | 0, t, h0, _ => by omega
  | n + 1, t, h0, h1 => by
    rw [sched64.eq_def B t, sched64.eq_def B' t]
    by_cases h16 : t < 16
    · rw [if_pos h16, if_pos h16, part64_congr t 8 (fun j hj => h _ (by omega))]
    · rw [if_neg h16, if_neg h16, sched64_congr h n (t - 2) (by omega) (by omega), sched64_congr h n (t - 7) (by omega) (by omega), sched64_congr h n (t - 15) (by omega) (by omega), sched64_congr h n (t - 16) (by omega) (by omega)]
theorem rounds64_congr {C W W' : Nat → Int} (s : Eight) : ∀ n, (∀ t, t < n → W t = W' t) → rounds64 C W n s = rounds64 C W' n s
  | 0, _ => rfl
  | n + 1, h => by rw [rounds64, rounds64, rounds64_congr s n (fun t ht => h t (by omega)), h n (by omega)]
theorem block64_congr {C B B' : Nat → Int} (s : Eight) (h : ∀ j, j < 128 → B j = B' j) : block64 C B s = block64 C B' s := by
  rw [block64, block64, rounds64_congr _ 80 (fun t ht => sched64_congr h 80 t ht ht)]
/-- The words hang on the blocks' bytes alone. -/
theorem TT_congr (wd : Bool) {B B' : Nat → Int} (s : Eight) : ∀ n, (∀ j, j < bsz wd * n → B j = B' j) → TT wd B s n = TT wd B' s n
  | 0, _ => by rw [TT_zero, TT_zero]
  | n + 1, h => by
    have ih := TT_congr wd s n (B := B) (B' := B') (fun j hj => h j (by rw [Nat.mul_succ]; omega))
    cases wd
    · simp only [TT, bsz, Bool.false_eq_true, if_false] at ih h ⊢
      rw [takes32, takes32, ih]
      exact block32_congr _ fun j hj => h _ (by omega)
    · simp only [TT, bsz, if_true] at ih h ⊢
      rw [takes64, takes64, ih]
      exact block64_congr _ fun j hj => h _ (by omega)
/-- Blocks behind blocks. -/
theorem TT_add (wd : Bool) (B : Nat → Int) (s : Eight) (i : Nat) : ∀ j, TT wd B s (i + j) = TT wd (fun k => B (bsz wd * i + k)) (TT wd B s i) j
  | 0 => by rw [TT_zero]; rfl
  | j + 1 => by
    have ih := TT_add wd B s i j
    cases wd
    · simp only [TT, bsz, Bool.false_eq_true, if_false] at ih ⊢
      rw [← Nat.add_assoc, takes32, takes32, ← ih]
      exact block32_congr _ fun k hk => by rw [Nat.mul_add, Nat.add_assoc]
    · simp only [TT, bsz, if_true] at ih ⊢
      rw [← Nat.add_assoc, takes64, takes64, ← ih]
      exact block64_congr _ fun k hk => by rw [Nat.mul_add, Nat.add_assoc]

set_option maxHeartbeats 400000 in
theorem narrow_zero (a : Value) (p : Option Addr) (cap : Nat) (w : World) :
    Calls Tryz.prog 92 #[a, .slice p 0 cap] w fun e w' => e = .returned (.tuple #[]) ∧ Below w.heap.size w w' := by
  have hb : Hid (∀ o, Below w.heap.size w (w.alloc o)) := fun o => (Below.refl _ _).alloc (Nat.le_refl _) o
  go_enter Tryz.func92, Tryz.ntmps92
  go_wp2
  go_loop [1] (fun v => v = .slice p 0 cap) (fun _ => 0)
  case atStart => exact rfl
  case round =>
    obtain rfl := hrel
    go_wp2
    go_end0
    exact ⟨rfl, hb.out _⟩
set_option maxHeartbeats 400000 in
theorem wide_zero (a : Value) (p : Option Addr) (cap : Nat) (w : World) :
    Calls Tryz.prog 93 #[a, .slice p 0 cap] w fun e w' => e = .returned (.tuple #[]) ∧ Below w.heap.size w w' := by
  have hb : Hid (∀ o, Below w.heap.size w (w.alloc o)) := fun o => (Below.refl _ _).alloc (Nat.le_refl _) o
  go_enter Tryz.func93, Tryz.ntmps93
  go_wp2
  go_loop [1] (fun v => v = .slice p 0 cap) (fun _ => 0)
  case atStart => exact rfl
  case round =>
    obtain rfl := hrel
    go_wp2
    go_end0
    exact ⟨rfl, hb.out _⟩

/-- A slice of bytes that lies apart from n cells of block g from o on. -/
def Apart (v : Value) (g o n : Nat) : Prop := ∀ b off l c, v = .slice (some ⟨b, off, none⟩) l c → b ≠ g ∨ off + l ≤ o ∨ o + n ≤ off
theorem range_below {w w' : World} {g o : Nat} {cs : List Value} (h : w.rangeAt g o cs) (b : Below w.heap.size w w') (hg : g < w.heap.size) : w'.rangeAt g o cs := fun j v hv => by
  rw [b.cell (p := ⟨g, o + j, none⟩) hg]
  exact h j v hv

/-- narrow, wide: the words behind a slice's blocks. -/
theorem take_any (wd : Bool) (g o : Nat) (v : Value) (zs : List Int) (s : Eight) (w : World) (hg : g < w.heap.size) (hr : w.rangeAt g o s.cells) (ht : w.there g o 8) (hv : View w v zs) (hsep : Apart v g o 8) (hT : Tables w) (hg3 : 6 ≤ g) :
    Calls Tryz.prog (fnOf wd) #[.pointer (some ⟨g, o, none⟩), v] w fun e w' => e = .returned (.tuple #[]) ∧ Touch w w' g o 8 ∧ w'.rangeAt g o (TT wd (fun i => zs.getD i 0) s (zs.length / bsz wd)).cells := by
  obtain ⟨a, cap, rfl, h1, h2, h3, h4⟩ := hv
  rcases h4 with rfl | ⟨b, p, rfl, hc⟩
  · cases wd
    · refine (narrow_zero _ a cap w).mono ?_
      rintro e w' ⟨rfl, hb⟩
      exact ⟨rfl, (Touch.refl _ _ _ _).below hb hg, range_below hr hb hg⟩
    · refine (wide_zero _ a cap w).mono ?_
      rintro e w' ⟨rfl, hb⟩
      exact ⟨rfl, (Touch.refl _ _ _ _).below hb hg, range_below hr hb hg⟩
  · have hs := hsep _ _ _ _ rfl
    cases wd
    · exact narrow_walk g o b p zs.length cap s cubeAt (fun i => zs.getD i 0) w hg h1 h2 hr ht hc hs (fun t ht => hT.cubes t (by omega)) (by omega)
    · exact wide_walk g o b p zs.length cap s cubeAt (fun i => zs.getD i 0) w hg h1 h2 hr ht hc hs hT.cubes (by omega)
/-- narrow: the words behind a slice's blocks. -/
theorem take_nar (wd : Bool) (hwd : wd = false) (g o : Nat) (v : Value) (zs : List Int) (s : Eight) (w : World) (hg : g < w.heap.size) (hr : w.rangeAt g o s.cells) (ht : w.there g o 8) (hv : View w v zs) (hsep : Apart v g o 8) (hT : Tables w) (hg3 : 6 ≤ g) :
    Calls Tryz.prog (fnOf wd) #[.pointer (some ⟨g, o, none⟩), v] w fun e w' => e = .returned (.tuple #[]) ∧ Touch w w' g o 8 ∧ w'.rangeAt g o (TT wd (fun i => zs.getD i 0) s (zs.length / bsz wd)).cells := by
  obtain ⟨a, cap, rfl, h1, h2, h3, h4⟩ := hv
  rcases h4 with rfl | ⟨b, p, rfl, hc⟩
  · cases wd
    · refine (narrow_zero _ a cap w).mono ?_
      rintro e w' ⟨rfl, hb⟩
      exact ⟨rfl, (Touch.refl _ _ _ _).below hb hg, range_below hr hb hg⟩
    · exact absurd hwd (by decide)
  · have hs := hsep _ _ _ _ rfl
    cases wd
    · exact narrow_walk g o b p zs.length cap s cubeAt (fun i => zs.getD i 0) w hg h1 h2 hr ht hc hs (fun t ht => hT.cubes t (by omega)) (by omega)
    · exact absurd hwd (by decide)
end Go.Proofs.YtehlppaidgkpaaaGreatDoor.Dg
