import Derived.Test.YtcnikfikpnnblaaGreatDoorBox
import Derived.Deep.RegionHeld3
import Derived.Deep.QuietTactic
import Derived.BigQuiet
import Derived.BigRegion
namespace Go.Proofs.YtcnikfikpnnblaaGreatDoor
open Go.RowKit
set_option linter.unusedVariables false
/-- Four bytes as a word, the first one highest. -/
def wd (a b c d : Nat) : Nat := a * 16777216 + b * 65536 + c * 256 + d
theorem wd_lt {a b c d : Nat} (ha : a < 256) (hb : b < 256) (hc : c < 256) (hd : d < 256) : wd a b c d < 4294967296 := by unfold wd; omega
theorem wd0 {a b c d : Nat} (ha : a < 256) (hb : b < 256) (hc : c < 256) (hd : d < 256) : ((wd a b c d : Nat) : Int) / 16777216 % 256 = a := by unfold wd; omega
theorem wd1 {a b c d : Nat} (ha : a < 256) (hb : b < 256) (hc : c < 256) (hd : d < 256) : ((wd a b c d : Nat) : Int) / 65536 % 256 = b := by unfold wd; omega
theorem wd2 {a b c d : Nat} (ha : a < 256) (hb : b < 256) (hc : c < 256) (hd : d < 256) : ((wd a b c d : Nat) : Int) / 256 % 256 = c := by unfold wd; omega
theorem wd3 {a b c d : Nat} (ha : a < 256) (hb : b < 256) (hc : c < 256) (hd : d < 256) : ((wd a b c d : Nat) : Int) % 256 = d := by unfold wd; omega
theorem wraps_u32 (n : Int) (h₀ : 0 ≤ n) (h₁ : n < 2 ^ 32) : IntKind.u32.wrap n = n := by rw [IntKind.wrap_u32]; omega
theorem xor32 (a b : Nat) (ha : a < 4294967296) (hb : b < 4294967296) : bits .xor .u32 (a : Int) b = (Nat.xor a b : Nat) := bits_xor .u32 32 (by decide) wraps_u32 a b ha hb
theorem split8 (a b x y : Nat) (hx : x < 256) (hy : y < 256) : Nat.xor (a * 256 + x) (b * 256 + y) = Nat.xor a b * 256 + Nat.xor x y := by
 have h1 : Nat.xor (a * 256 + x) (b * 256 + y) / 2 ^ 8 = Nat.xor ((a * 256 + x) / 2 ^ 8) ((b * 256 + y) / 2 ^ 8) := Nat.xor_div_two_pow
 have h2 : Nat.xor (a * 256 + x) (b * 256 + y) % 2 ^ 8 = Nat.xor ((a * 256 + x) % 2 ^ 8) ((b * 256 + y) % 2 ^ 8) := Nat.xor_mod_two_pow
 rw [show (a * 256 + x) / 2 ^ 8 = a by omega, show (b * 256 + y) / 2 ^ 8 = b by omega] at h1
 rw [show (a * 256 + x) % 2 ^ 8 = x by omega, show (b * 256 + y) % 2 ^ 8 = y by omega] at h2
 omega
theorem wd_xor (a b c d a' b' c' d' : Nat) (hb : b < 256) (hc : c < 256) (hd : d < 256) (hb' : b' < 256) (hc' : c' < 256) (hd' : d' < 256) :
  Nat.xor (wd a b c d) (wd a' b' c' d') = wd (Nat.xor a a') (Nat.xor b b') (Nat.xor c c') (Nat.xor d d') := by
 have e : ∀ a b c d, wd a b c d = ((a * 256 + b) * 256 + c) * 256 + d := fun a b c d => by unfold wd; omega
 rw [e, e, split8 _ _ _ _ hd hd', split8 _ _ _ _ hc hc', split8 _ _ _ _ hb hb', e]
theorem joins (i x y : Nat) (hx : x % 2 ^ i = 0) (hx1 : x < 4294967296) (hy : y < 2 ^ i) (hi : i ≤ 32) (hxy : x + y < 4294967296) : bits .or .u32 (x : Int) y = ((x + y : Nat) : Int) := by
 have := bits_join .u32 32 (by decide) wraps_u32 i x y (by omega) (by exact_mod_cast hx) (by omega) (by omega) (by exact_mod_cast hy) (by omega)
 simpa using this
theorem word_ok (a b c d : Nat) (ha : a < 256) (hb : b < 256) (hc : c < 256) (hd : d < 256) (w : World) : Calls Tryz.prog 174 #[.int .u8 a, .int .u8 b, .int .u8 c, .int .u8 d] w fun e w' => e = .returned (.int .u32 (wd a b c d : Nat)) ∧ w' = w := by
 go_enter Tryz.func174, Tryz.ntmps174
 go_wp2
 go_ret
 refine ⟨ret_int ?_, rfl⟩
 have e1 := joins 24 (a * 16777216) (b * 65536) (by omega) (by omega) (by omega) (by omega) (by omega)
 have e2 := joins 16 (a * 16777216 + b * 65536) (c * 256) (by omega) (by omega) (by omega) (by omega) (by omega)
 have e3 := joins 8 (a * 16777216 + b * 65536 + c * 256) d (by omega) (by omega) (by omega) (by omega) (by omega)
 rw [show ((a : Int) * 16777216) = ((a * 16777216 : Nat) : Int) by omega, show ((b : Int) * 65536) = ((b * 65536 : Nat) : Int) by omega, show ((c : Int) * 256) = ((c * 256 : Nat) : Int) by omega, e1, e2, e3]
 unfold wd
 omega
theorem rot32_core (x k s : Int) (w : World) (hb : bits .and .u64 (IntKind.u64.wrap k) 31 = s) (h0 : 0 ≤ s) (h1 : s ≤ 32) (hs : IntKind.u64.wrap (32 - s) = 32 - s) : Calls Tryz.prog 108 #[.int .u32 x, .int .i64 k] w fun e w' => e = .returned (.int .u32 (bits .or .u32 (x * 2 ^ s.toNat % 4294967296) (x / 2 ^ (32 - s).toNat))) ∧ w' = w := by
 have h2 : 0 ≤ 32 - s := by omega
 go_enter Tryz.func108, Tryz.ntmps108
 go_wp2
 go_ret
 exact ⟨rfl, rfl⟩
theorem rotr8 {a b c d : Nat} {w : World} (ha : a < 256) (hb : b < 256) (hc : c < 256) (hd : d < 256) : Calls Tryz.prog 108 #[.int .u32 (wd a b c d : Nat), .int .i64 (-8)] w fun e w' => e = .returned (.int .u32 (wd d a b c : Nat)) ∧ w' = w := by
 have h := rot32_core (wd a b c d : Nat) (-8) 24 w (by decide +kernel) (by decide) (by decide) (by decide +kernel)
 refine h.mono fun e w' ⟨h1, h2⟩ => ⟨h1.trans (ret_int ?_), h2⟩
 rw [show (24 : Int).toNat = 24 from rfl, show ((32 : Int) - 24).toNat = 8 from rfl]
 have := joins 24 (d * 16777216) (a * 65536 + b * 256 + c) (by omega) (by omega) (by omega) (by omega) (by omega)
 rw [show ((wd a b c d : Nat) : Int) * 2 ^ 24 % 4294967296 = ((d * 16777216 : Nat) : Int) by unfold wd; omega, show ((wd a b c d : Nat) : Int) / 2 ^ 8 = ((a * 65536 + b * 256 + c : Nat) : Int) by unfold wd; omega, this]
 unfold wd
 omega
theorem rotr16 {a b c d : Nat} {w : World} (ha : a < 256) (hb : b < 256) (hc : c < 256) (hd : d < 256) : Calls Tryz.prog 108 #[.int .u32 (wd a b c d : Nat), .int .i64 (-16)] w fun e w' => e = .returned (.int .u32 (wd c d a b : Nat)) ∧ w' = w := by
 have h := rot32_core (wd a b c d : Nat) (-16) 16 w (by decide +kernel) (by decide) (by decide) (by decide +kernel)
 refine h.mono fun e w' ⟨h1, h2⟩ => ⟨h1.trans (ret_int ?_), h2⟩
 rw [show (16 : Int).toNat = 16 from rfl, show ((32 : Int) - 16).toNat = 16 from rfl]
 have := joins 16 (c * 16777216 + d * 65536) (a * 256 + b) (by omega) (by omega) (by omega) (by omega) (by omega)
 rw [show ((wd a b c d : Nat) : Int) * 2 ^ 16 % 4294967296 = ((c * 16777216 + d * 65536 : Nat) : Int) by unfold wd; omega, show ((wd a b c d : Nat) : Int) / 2 ^ 16 = ((a * 256 + b : Nat) : Int) by unfold wd; omega, this]
 unfold wd
 omega
theorem rotr24 {a b c d : Nat} {w : World} (ha : a < 256) (hb : b < 256) (hc : c < 256) (hd : d < 256) : Calls Tryz.prog 108 #[.int .u32 (wd a b c d : Nat), .int .i64 (-24)] w fun e w' => e = .returned (.int .u32 (wd b c d a : Nat)) ∧ w' = w := by
 have h := rot32_core (wd a b c d : Nat) (-24) 8 w (by decide +kernel) (by decide) (by decide) (by decide +kernel)
 refine h.mono fun e w' ⟨h1, h2⟩ => ⟨h1.trans (ret_int ?_), h2⟩
 rw [show (8 : Int).toNat = 8 from rfl, show ((32 : Int) - 8).toNat = 24 from rfl]
 have := joins 8 (b * 16777216 + c * 65536 + d * 256) (a) (by omega) (by omega) (by omega) (by omega) (by omega)
 rw [show ((wd a b c d : Nat) : Int) * 2 ^ 8 % 4294967296 = ((b * 16777216 + c * 65536 + d * 256 : Nat) : Int) by unfold wd; omega, show ((wd a b c d : Nat) : Int) / 2 ^ 24 = ((a : Nat) : Int) by unfold wd; omega, this]
 unfold wd
 omega
theorem rotl8 {a b c d : Nat} {w : World} (ha : a < 256) (hb : b < 256) (hc : c < 256) (hd : d < 256) : Calls Tryz.prog 108 #[.int .u32 (wd a b c d : Nat), .int .i64 (8)] w fun e w' => e = .returned (.int .u32 (wd b c d a : Nat)) ∧ w' = w := by
 have h := rot32_core (wd a b c d : Nat) (8) 8 w (by decide +kernel) (by decide) (by decide) (by decide +kernel)
 refine h.mono fun e w' ⟨h1, h2⟩ => ⟨h1.trans (ret_int ?_), h2⟩
 rw [show (8 : Int).toNat = 8 from rfl, show ((32 : Int) - 8).toNat = 24 from rfl]
 have := joins 8 (b * 16777216 + c * 65536 + d * 256) (a) (by omega) (by omega) (by omega) (by omega) (by omega)
 rw [show ((wd a b c d : Nat) : Int) * 2 ^ 8 % 4294967296 = ((b * 16777216 + c * 65536 + d * 256 : Nat) : Int) by unfold wd; omega, show ((wd a b c d : Nat) : Int) / 2 ^ 24 = ((a : Nat) : Int) by unfold wd; omega, this]
 unfold wd
 omega
/-- S and its inverse, out of one number each. -/
def SB (b : Nat) : Nat := Nat.mod (Nat.shiftRight 2869618975290639062594974519597816386035077209210385677284518162336985023502962151465775969507961862820568736543004676439868535775640188584098917533413284844376797297285941524888791401501466624530423689326528054213168201056672989590893583853414110162539122864583953358348775951166211353578440977400428507475679327181038682772945817200201960445064847785221508011893952350688324234443749897213621340677040612747745615276448919507935121141307752692835344166708617454322778699219895865633266409040561742768581056182730443599545881830075941537620590442514083341749674612746994879540562701631131184186066652929592955206755 (Nat.mul 8 b)) 256
def UB (b : Nat) : Nat := Nat.mod (Nat.shiftRight 15785769749828884342349381641981096363179738000380205650940338083111619982568718420166261191398703005748170232611805704157196303061330872280026969925224128193193768962594508714770967646139604422718174787315048227180018877623049221087186576642191304514338137614235628241783007805847129270530950856841486400764657112140097236091222567730363620332611309375046737430203438830593833719428588466121688739068564421474273450162064709239629809347626728710072303178617319436726577534667237755444692000788692193415136619289353224918429728194544458916874716857284226411602766869706570927007876872095880586785662942963508062062930 (Nat.mul 8 b)) 256
theorem SB_lt (b : Nat) : SB b < 256 := Nat.mod_lt _ (by decide)
theorem UB_lt (b : Nat) : UB b < 256 := Nat.mod_lt _ (by decide)
theorem UB_SB : ∀ b : Fin 256, UB (SB b.1) = b.1 ∧ SB (UB b.1) = b.1 := by decide +kernel
/-- Products by 3, 9, 11, 13, 14. -/
def x2 (a : Nat) : Nat := dblN a
def x3 (a : Nat) : Nat := Nat.xor (dblN a) a
def x9 (a : Nat) : Nat := Nat.xor (dblN (dblN (dblN a))) a
def x11 (a : Nat) : Nat := Nat.xor (Nat.xor (dblN (dblN (dblN a))) (dblN a)) a
def x13 (a : Nat) : Nat := Nat.xor (Nat.xor (dblN (dblN (dblN a))) (dblN (dblN a))) a
def x14 (a : Nat) : Nat := Nat.xor (Nat.xor (dblN (dblN (dblN a))) (dblN (dblN a))) (dblN a)
theorem x_lt : ∀ a : Fin 256, x2 a.1 < 256 ∧ x3 a.1 < 256 ∧ x9 a.1 < 256 ∧ x11 a.1 < 256 ∧ x13 a.1 < 256 ∧ x14 a.1 < 256 := by decide +kernel
/-- The columns' tables. -/
def MX (b : Nat) : Nat := wd (x2 (SB b)) (SB b) (SB b) (x3 (SB b))
def UX (b : Nat) : Nat := wd (x14 b) (x9 b) (x13 b) (x11 b)
/-- A column through S and multiplied; one multiplied backwards. -/
def M8 (b : Nat) : Nat := wd (x3 (SB b)) (x2 (SB b)) (SB b) (SB b)
def M16 (b : Nat) : Nat := wd (SB b) (x3 (SB b)) (x2 (SB b)) (SB b)
def M24 (b : Nat) : Nat := wd (SB b) (SB b) (x3 (SB b)) (x2 (SB b))
def U8 (b : Nat) : Nat := wd (x11 b) (x14 b) (x9 b) (x13 b)
def U16 (b : Nat) : Nat := wd (x13 b) (x11 b) (x14 b) (x9 b)
def U24 (b : Nat) : Nat := wd (x9 b) (x13 b) (x11 b) (x14 b)
def mixc (a b c d : Nat) : Nat := Nat.xor (Nat.xor (Nat.xor (MX a) (M8 b)) (M16 c)) (M24 d)
def unmc (a b c d : Nat) : Nat := Nat.xor (Nat.xor (Nat.xor (UX a) (U8 b)) (U16 c)) (U24 d)
/-- The tables of a cipher at g, o. -/
structure Tab (w : World) (g o : Nat) : Prop where
 s : ∀ b, b < 256 → w.cell? ⟨g, o + 61 + b, none⟩ = some (.int .u8 (SB b : Nat))
 u : ∀ b, b < 256 → w.cell? ⟨g, o + 317 + b, none⟩ = some (.int .u8 (UB b : Nat))
 m : ∀ b, b < 256 → w.cell? ⟨g, o + 573 + b, none⟩ = some (.int .u32 (MX b : Nat))
 n : ∀ b, b < 256 → w.cell? ⟨g, o + 829 + b, none⟩ = some (.int .u32 (UX b : Nat))
end Go.Proofs.YtcnikfikpnnblaaGreatDoor
