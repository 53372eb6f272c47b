import Derived.Test.YtgmfiljjogdccabGreatDoorPart02
import Derived.Deep.RegionHeld3
import Derived.Deep.QuietTactic
import Derived.BigQuiet
import Derived.BigRegion
import Derived.Test.YtgmfiljjogdccabGreatDoorPart00
import Derived.Deep.Draws
import Derived.Deep.Upon
namespace Go.Proofs.YtgmfiljjogdccabGreatDoor
open Go.RowKit
set_option linter.unusedVariables false
/-- Four bytes as a word, the first one highest. -/
def wd (a b c d : Nat) : Nat := a * 16777216 + b * 65536 + c * 256 + d
theorem wd_lt {a b c d : Nat} (ha : a < 256) (hb : b < 256) (hc : c < 256) (hd : d < 256) : wd a b c d < 4294967296 := by unfold wd; omega
theorem wd0 {a b c d : Nat} (ha : a < 256) (hb : b < 256) (hc : c < 256) (hd : d < 256) : ((wd a b c d : Nat) : Int) / 16777216 % 256 = a := by unfold wd; omega
theorem wd1 {a b c d : Nat} (ha : a < 256) (hb : b < 256) (hc : c < 256) (hd : d < 256) : ((wd a b c d : Nat) : Int) / 65536 % 256 = b := by unfold wd; omega
theorem wd2 {a b c d : Nat} (ha : a < 256) (hb : b < 256) (hc : c < 256) (hd : d < 256) : ((wd a b c d : Nat) : Int) / 256 % 256 = c := by unfold wd; omega
theorem wd3 {a b c d : Nat} (ha : a < 256) (hb : b < 256) (hc : c < 256) (hd : d < 256) : ((wd a b c d : Nat) : Int) % 256 = d := by unfold wd; omega
theorem wraps_u32 (n : Int) (h₀ : 0 ≤ n) (h₁ : n < 2 ^ 32) : IntKind.u32.wrap n = n := by rw [IntKind.wrap_u32]; omega
theorem xor32 (a b : Nat) (ha : a < 4294967296) (hb : b < 4294967296) : bits .xor .u32 (a : Int) b = (Nat.xor a b : Nat) := bits_xor .u32 32 (by decide) wraps_u32 a b ha hb
theorem split8 (a b x y : Nat) (hx : x < 256) (hy : y < 256) : Nat.xor (a * 256 + x) (b * 256 + y) = Nat.xor a b * 256 + Nat.xor x y := by
 have h1 : Nat.xor (a * 256 + x) (b * 256 + y) / 2 ^ 8 = Nat.xor ((a * 256 + x) / 2 ^ 8) ((b * 256 + y) / 2 ^ 8) := Nat.xor_div_two_pow
 have h2 : Nat.xor (a * 256 + x) (b * 256 + y) % 2 ^ 8 = Nat.xor ((a * 256 + x) % 2 ^ 8) ((b * 256 + y) % 2 ^ 8) := Nat.xor_mod_two_pow
 rw [show (a * 256 + x) / 2 ^ 8 = a by omega, show (b * 256 + y) / 2 ^ 8 = b by omega] at h1
 rw [show (a * 256 + x) % 2 ^ 8 = x by omega, show (b * 256 + y) % 2 ^ 8 = y by omega] at h2
 omega
theorem wd_xor (a b c d a' b' c' d' : Nat) (hb : b < 256) (hc : c < 256) (hd : d < 256) (hb' : b' < 256) (hc' : c' < 256) (hd' : d' < 256) :
  Nat.xor (wd a b c d) (wd a' b' c' d') = wd (Nat.xor a a') (Nat.xor b b') (Nat.xor c c') (Nat.xor d d') := by
 have e : ∀ a b c d, wd a b c d = ((a * 256 + b) * 256 + c) * 256 + d := fun a b c d => by unfold wd; omega
 rw [e, e, split8 _ _ _ _ hd hd', split8 _ _ _ _ hc hc', split8 _ _ _ _ hb hb', e]
theorem joins (i x y : Nat) (hx : x % 2 ^ i = 0) (hx1 : x < 4294967296) (hy : y < 2 ^ i) (hi : i ≤ 32) (hxy : x + y < 4294967296) : bits .or .u32 (x : Int) y = ((x + y : Nat) : Int) := by
 have := bits_join .u32 32 (by decide) wraps_u32 i x y (by omega) (by exact_mod_cast hx) (by omega) (by omega) (by exact_mod_cast hy) (by omega)
 simpa using this
theorem word_ok (a b c d : Nat) (ha : a < 256) (hb : b < 256) (hc : c < 256) (hd : d < 256) (w : World) : Calls Tryz.prog 91 #[.int .u8 a, .int .u8 b, .int .u8 c, .int .u8 d] w fun e w' => e = .returned (.int .u32 (wd a b c d : Nat)) ∧ w' = w := by
 go_enter Tryz.func91, Tryz.ntmps91
 go_wp2
 go_ret
 refine ⟨ret_int ?_, rfl⟩
 have e1 := joins 24 (a * 16777216) (b * 65536) (by omega) (by omega) (by omega) (by omega) (by omega)
 have e2 := joins 16 (a * 16777216 + b * 65536) (c * 256) (by omega) (by omega) (by omega) (by omega) (by omega)
 have e3 := joins 8 (a * 16777216 + b * 65536 + c * 256) d (by omega) (by omega) (by omega) (by omega) (by omega)
 rw [show ((a : Int) * 16777216) = ((a * 16777216 : Nat) : Int) by omega, show ((b : Int) * 65536) = ((b * 65536 : Nat) : Int) by omega, show ((c : Int) * 256) = ((c * 256 : Nat) : Int) by omega, e1, e2, e3]
 unfold wd
 omega
theorem rot32_core (x k s : Int) (w : World) (hb : bits .and .u64 (IntKind.u64.wrap k) 31 = s) (h0 : 0 ≤ s) (h1 : s ≤ 32) (hs : IntKind.u64.wrap (32 - s) = 32 - s) : Calls Tryz.prog 39 #[.int .u32 x, .int .i64 k] w fun e w' => e = .returned (.int .u32 (bits .or .u32 (x * 2 ^ s.toNat % 4294967296) (x / 2 ^ (32 - s).toNat))) ∧ w' = w := by
 have h2 : 0 ≤ 32 - s := by omega
 go_enter Tryz.func39, Tryz.ntmps39
 go_wp2
 go_ret
 exact ⟨rfl, rfl⟩
theorem rotr8 {a b c d : Nat} {w : World} (ha : a < 256) (hb : b < 256) (hc : c < 256) (hd : d < 256) : Calls Tryz.prog 39 #[.int .u32 (wd a b c d : Nat), .int .i64 (-8)] w fun e w' => e = .returned (.int .u32 (wd d a b c : Nat)) ∧ w' = w := by
 have h := rot32_core (wd a b c d : Nat) (-8) 24 w (by decide +kernel) (by decide) (by decide) (by decide +kernel)
 refine h.mono fun e w' ⟨h1, h2⟩ => ⟨h1.trans (ret_int ?_), h2⟩
 rw [show (24 : Int).toNat = 24 from rfl, show ((32 : Int) - 24).toNat = 8 from rfl]
 have := joins 24 (d * 16777216) (a * 65536 + b * 256 + c) (by omega) (by omega) (by omega) (by omega) (by omega)
 rw [show ((wd a b c d : Nat) : Int) * 2 ^ 24 % 4294967296 = ((d * 16777216 : Nat) : Int) by unfold wd; omega, show ((wd a b c d : Nat) : Int) / 2 ^ 8 = ((a * 65536 + b * 256 + c : Nat) : Int) by unfold wd; omega, this]
 unfold wd
 omega
theorem rotr16 {a b c d : Nat} {w : World} (ha : a < 256) (hb : b < 256) (hc : c < 256) (hd : d < 256) : Calls Tryz.prog 39 #[.int .u32 (wd a b c d : Nat), .int .i64 (-16)] w fun e w' => e = .returned (.int .u32 (wd c d a b : Nat)) ∧ w' = w := by
 have h := rot32_core (wd a b c d : Nat) (-16) 16 w (by decide +kernel) (by decide) (by decide) (by decide +kernel)
 refine h.mono fun e w' ⟨h1, h2⟩ => ⟨h1.trans (ret_int ?_), h2⟩
 rw [show (16 : Int).toNat = 16 from rfl, show ((32 : Int) - 16).toNat = 16 from rfl]
 have := joins 16 (c * 16777216 + d * 65536) (a * 256 + b) (by omega) (by omega) (by omega) (by omega) (by omega)
 rw [show ((wd a b c d : Nat) : Int) * 2 ^ 16 % 4294967296 = ((c * 16777216 + d * 65536 : Nat) : Int) by unfold wd; omega, show ((wd a b c d : Nat) : Int) / 2 ^ 16 = ((a * 256 + b : Nat) : Int) by unfold wd; omega, this]
 unfold wd
 omega
theorem rotr24 {a b c d : Nat} {w : World} (ha : a < 256) (hb : b < 256) (hc : c < 256) (hd : d < 256) : Calls Tryz.prog 39 #[.int .u32 (wd a b c d : Nat), .int .i64 (-24)] w fun e w' => e = .returned (.int .u32 (wd b c d a : Nat)) ∧ w' = w := by
 have h := rot32_core (wd a b c d : Nat) (-24) 8 w (by decide +kernel) (by decide) (by decide) (by decide +kernel)
 refine h.mono fun e w' ⟨h1, h2⟩ => ⟨h1.trans (ret_int ?_), h2⟩
 rw [show (8 : Int).toNat = 8 from rfl, show ((32 : Int) - 8).toNat = 24 from rfl]
 have := joins 8 (b * 16777216 + c * 65536 + d * 256) (a) (by omega) (by omega) (by omega) (by omega) (by omega)
 rw [show ((wd a b c d : Nat) : Int) * 2 ^ 8 % 4294967296 = ((b * 16777216 + c * 65536 + d * 256 : Nat) : Int) by unfold wd; omega, show ((wd a b c d : Nat) : Int) / 2 ^ 24 = ((a : Nat) : Int) by unfold wd; omega, this]
 unfold wd
 omega
theorem rotl8 {a b c d : Nat} {w : World} (ha : a < 256) (hb : b < 256) (hc : c < 256) (hd : d < 256) : Calls Tryz.prog 39 #[.int .u32 (wd a b c d : Nat), .int .i64 (8)] w fun e w' => e = .returned (.int .u32 (wd b c d a : Nat)) ∧ w' = w := by
 have h := rot32_core (wd a b c d : Nat) (8) 8 w (by decide +kernel) (by decide) (by decide) (by decide +kernel)
 refine h.mono fun e w' ⟨h1, h2⟩ => ⟨h1.trans (ret_int ?_), h2⟩
 rw [show (8 : Int).toNat = 8 from rfl, show ((32 : Int) - 8).toNat = 24 from rfl]
 have := joins 8 (b * 16777216 + c * 65536 + d * 256) (a) (by omega) (by omega) (by omega) (by omega) (by omega)
 rw [show ((wd a b c d : Nat) : Int) * 2 ^ 8 % 4294967296 = ((b * 16777216 + c * 65536 + d * 256 : Nat) : Int) by unfold wd; omega, show ((wd a b c d : Nat) : Int) / 2 ^ 24 = ((a : Nat) : Int) by unfold wd; omega, this]
 unfold wd
 omega
/-- S and its inverse, out of one number each. -/
def SB (b : Nat) : Nat := Nat.mod (Nat.shiftRight 2869618975290639062594974519597816386035077209210385677284518162336985023502962151465775969507961862820568736543004676439868535775640188584098917533413284844376797297285941524888791401501466624530423689326528054213168201056672989590893583853414110162539122864583953358348775951166211353578440977400428507475679327181038682772945817200201960445064847785221508011893952350688324234443749897213621340677040612747745615276448919507935121141307752692835344166708617454322778699219895865633266409040561742768581056182730443599545881830075941537620590442514083341749674612746994879540562701631131184186066652929592955206755 (Nat.mul 8 b)) 256
def UB (b : Nat) : Nat := Nat.mod (Nat.shiftRight 15785769749828884342349381641981096363179738000380205650940338083111619982568718420166261191398703005748170232611805704157196303061330872280026969925224128193193768962594508714770967646139604422718174787315048227180018877623049221087186576642191304514338137614235628241783007805847129270530950856841486400764657112140097236091222567730363620332611309375046737430203438830593833719428588466121688739068564421474273450162064709239629809347626728710072303178617319436726577534667237755444692000788692193415136619289353224918429728194544458916874716857284226411602766869706570927007876872095880586785662942963508062062930 (Nat.mul 8 b)) 256
theorem SB_lt (b : Nat) : SB b < 256 := Nat.mod_lt _ (by decide)
theorem UB_lt (b : Nat) : UB b < 256 := Nat.mod_lt _ (by decide)
theorem UB_SB : ∀ b : Fin 256, UB (SB b.1) = b.1 ∧ SB (UB b.1) = b.1 := by decide +kernel
/-- Products by 3, 9, 11, 13, 14. -/
def x2 (a : Nat) : Nat := dblN a
def x3 (a : Nat) : Nat := Nat.xor (dblN a) a
def x9 (a : Nat) : Nat := Nat.xor (dblN (dblN (dblN a))) a
def x11 (a : Nat) : Nat := Nat.xor (Nat.xor (dblN (dblN (dblN a))) (dblN a)) a
def x13 (a : Nat) : Nat := Nat.xor (Nat.xor (dblN (dblN (dblN a))) (dblN (dblN a))) a
def x14 (a : Nat) : Nat := Nat.xor (Nat.xor (dblN (dblN (dblN a))) (dblN (dblN a))) (dblN a)
theorem x_lt : ∀ a : Fin 256, x2 a.1 < 256 ∧ x3 a.1 < 256 ∧ x9 a.1 < 256 ∧ x11 a.1 < 256 ∧ x13 a.1 < 256 ∧ x14 a.1 < 256 := by decide +kernel
/-- The columns' tables. -/
def MX (b : Nat) : Nat := wd (x2 (SB b)) (SB b) (SB b) (x3 (SB b))
def UX (b : Nat) : Nat := wd (x14 b) (x9 b) (x13 b) (x11 b)
/-- A column through S and multiplied; one multiplied backwards. -/
def M8 (b : Nat) : Nat := wd (x3 (SB b)) (x2 (SB b)) (SB b) (SB b)
def M16 (b : Nat) : Nat := wd (SB b) (x3 (SB b)) (x2 (SB b)) (SB b)
def M24 (b : Nat) : Nat := wd (SB b) (SB b) (x3 (SB b)) (x2 (SB b))
def U8 (b : Nat) : Nat := wd (x11 b) (x14 b) (x9 b) (x13 b)
def U16 (b : Nat) : Nat := wd (x13 b) (x11 b) (x14 b) (x9 b)
def U24 (b : Nat) : Nat := wd (x9 b) (x13 b) (x11 b) (x14 b)
def mixc (a b c d : Nat) : Nat := Nat.xor (Nat.xor (Nat.xor (MX a) (M8 b)) (M16 c)) (M24 d)
def unmc (a b c d : Nat) : Nat := Nat.xor (Nat.xor (Nat.xor (UX a) (U8 b)) (U16 c)) (U24 d)
/-- The tables of a cipher at g, o. -/
structure Tab (w : World) (g o : Nat) : Prop where
 s : ∀ b, b < 256 → w.cell? ⟨g, o + 61 + b, none⟩ = some (.int .u8 (SB b : Nat))
 u : ∀ b, b < 256 → w.cell? ⟨g, o + 317 + b, none⟩ = some (.int .u8 (UB b : Nat))
 m : ∀ b, b < 256 → w.cell? ⟨g, o + 573 + b, none⟩ = some (.int .u32 (MX b : Nat))
 n : ∀ b, b < 256 → w.cell? ⟨g, o + 829 + b, none⟩ = some (.int .u32 (UX b : Nat))
end Go.Proofs.YtgmfiljjogdccabGreatDoor
namespace Go.Proofs.YtgmfiljjogdccabGreatDoor
open Go.RowKit

/-- A world that differs in what it drew alone. -/
structure Sm (w w' : World) : Prop where
 os : w'.os = w.os
 tape : w'.tape = w.tape
 output : w'.output = w.output
 heap : w'.heap = w.heap
theorem Sm.refl (w : World) : Sm w w := ⟨rfl, rfl, rfl, rfl⟩
theorem Sm.drewN {w v : World} (h : Sm w v) (m : Nat) : Sm w (v.drewN m) := ⟨h.os, h.tape, h.output, h.heap⟩
theorem Sm.trans {a b c : World} (h : Sm a b) (k : Sm b c) : Sm a c := ⟨k.os.trans h.os, k.tape.trans h.tape, k.output.trans h.output, k.heap.trans h.heap⟩
theorem Sm.cell {w v : World} (h : Sm w v) (p : Addr) : v.cell? p = w.cell? p := World.cell?_of_block (by rw [h.heap])
theorem Sm.frozen {w v : World} (h : Sm w v) (p : Addr) : v.frozen? p = w.frozen? p := World.frozen?_of_block (by rw [h.heap])

theorem setCells_os (b : Nat) : ∀ (vs : List Value) (o : Nat) (w : World), (w.setCells b o vs).os = w.os
 | [], _, _ => rfl
 | v :: r, o, w => by rw [World.setCells, setCells_os b r (o + 1)]; rfl
theorem setCells_tape (b : Nat) : ∀ (vs : List Value) (o : Nat) (w : World), (w.setCells b o vs).tape = w.tape
 | [], _, _ => rfl
 | v :: r, o, w => by rw [World.setCells, setCells_tape b r (o + 1)]; rfl
theorem setCells_output (b : Nat) : ∀ (vs : List Value) (o : Nat) (w : World), (w.setCells b o vs).output = w.output
 | [], _, _ => rfl
 | v :: r, o, w => by rw [World.setCells, setCells_output b r (o + 1)]; rfl

/-- From w to w' nothing of what was there is changed but n cells of block g from o on; what could be written there can be still. -/
structure Touch (w w' : World) (g o n : Nat) : Prop where
 os : w'.os = w.os
 tape : w'.tape = w.tape
 output : w'.output = w.output
 size : w.heap.size ≤ w'.heap.size
 block : ∀ k, k < w.heap.size → k ≠ g → w'.heap[k]? = w.heap[k]?
 cell : ∀ j, (j < o ∨ o + n ≤ j) → w'.cell? ⟨g, j, none⟩ = w.cell? ⟨g, j, none⟩
 there : ∀ o' n', w.there g o' n' → w'.there g o' n'

theorem Sm.touch {w v : World} (h : Sm w v) (g o n : Nat) : Touch w v g o n :=
 ⟨h.os, h.tape, h.output, by rw [h.heap]; exact Nat.le_refl _, fun k _ _ => by rw [h.heap], fun j _ => h.cell _, fun o' n' ht j hj => by rw [h.cell, h.frozen]; exact ht j hj⟩
theorem Touch.refl (w : World) (g o n : Nat) : Touch w w g o n := (Sm.refl w).touch g o n
theorem Touch.trans {a b c : World} {g o n : Nat} (h : Touch a b g o n) (k : Touch b c g o n) : Touch a c g o n :=
 ⟨k.os.trans h.os, k.tape.trans h.tape, k.output.trans h.output, Nat.le_trans h.size k.size, fun i hi hne => (k.block i (Nat.lt_of_lt_of_le hi h.size) hne).trans (h.block i hi hne), fun j hj => (k.cell j hj).trans (h.cell j hj), fun o' n' ht => k.there o' n' (h.there o' n' ht)⟩
theorem Touch.mono {a b : World} {g o n : Nat} (h : Touch a b g o n) (o' n' : Nat) (h1 : o' ≤ o) (h2 : o + n ≤ o' + n') : Touch a b g o' n' :=
 ⟨h.os, h.tape, h.output, h.size, h.block, fun j hj => h.cell j (by omega), h.there⟩
theorem Touch.setCells {a b : World} {g o n : Nat} (h : Touch a b g o n) (o' : Nat) (vs : List Value) (h1 : o ≤ o') (h2 : o' + vs.length ≤ o + n) : Touch a (b.setCells g o' vs) g o n := by
 refine h.trans ⟨?_, ?_, ?_, ?_, ?_, ?_, ?_⟩
 ·exact setCells_os g vs o' b
 ·exact setCells_tape g vs o' b
 ·exact setCells_output g vs o' b
 ·rw [sizeB_setCells]; exact Nat.le_refl _
 ·intro k hk hne
  exact World.heap_setCells_other b g o' vs hk hne
 ·intro j hj
  exact World.cell?_setCells_out g vs o' b ⟨g, j, none⟩ (fun _ _ => by rcases hj with h | h; exact .inl (by show j < o'; omega); exact .inr (by show o' + vs.length ≤ j; omega))
 ·intro o2 n2 ht
  exact World.there_setCells ht g o' vs
theorem Touch.setCell {a b : World} {g o n : Nat} (h : Touch a b g o n) (j : Nat) (u : Value) (h1 : o ≤ j) (h2 : j < o + n) : Touch a (b.setCell ⟨g, j, none⟩ u) g o n :=
 h.setCells j [u] h1 (by simp; omega)
theorem Touch.alloc {a b : World} {g o n : Nat} (h : Touch a b g o n) (ob : Obj) (hg : g < a.heap.size) : Touch a (b.alloc ob) g o n := by
 have hs := h.size
 refine h.trans ⟨rfl, rfl, rfl, by simp, ?_, ?_, ?_⟩
 ·intro k hk _
  exact Below.heap_alloc b ob k hk
 ·intro j _
  exact World.cell?_alloc_past ob g j (by omega)
 ·intro o' n' ht
  exact World.there_alloc ht ob
theorem Touch.drew {a b : World} {g o n : Nat} (h : Touch a b g o n) : Touch a b.drew g o n := ⟨h.os, h.tape, h.output, h.size, h.block, h.cell, h.there⟩
theorem Touch.drewN {a b : World} {g o n : Nat} (h : Touch a b g o n) (m : Nat) : Touch a (b.drewN m) g o n := ⟨h.os, h.tape, h.output, h.size, h.block, h.cell, h.there⟩
/-- What only makes new blocks touches nothing. -/
theorem Touch.below {a b c : World} {g o n : Nat} (h : Touch a b g o n) (k : Below b.heap.size b c) (hg : g < a.heap.size) : Touch a c g o n := by
 have hs := h.size
 refine h.trans ⟨k.os, k.tape, k.output, k.size, fun i hi _ => k.block i hi, fun j _ => k.cell (p := ⟨g, j, none⟩) (show g < _ by omega), ?_⟩
 intro o' n' ht j hj
 rw [k.cell (p := ⟨g, o' + j, none⟩) (show g < _ by omega), k.frozen (p := ⟨g, o' + j, none⟩) (show g < _ by omega)]
 exact ht j hj
theorem Touch.toBelow {a b : World} {g o n B : Nat} (h : Touch a b g o n) (hg : B ≤ g) (hB : B ≤ a.heap.size) : Below B a b :=
 ⟨h.os, h.tape, h.output, h.size, fun k hk => h.block k (by omega) (by omega)⟩
theorem Touch.far {a b : World} {g o n : Nat} (h : Touch a b g o n) {p : Addr} (hp : p.block < a.heap.size) (hne : p.block ≠ g) : b.cell? p = a.cell? p := World.cell?_of_block (h.block p.block hp hne)
theorem Touch.farFrozen {a b : World} {g o n : Nat} (h : Touch a b g o n) {p : Addr} (hp : p.block < a.heap.size) (hne : p.block ≠ g) : b.frozen? p = a.frozen? p := World.frozen?_of_block (h.block p.block hp hne)
end Go.Proofs.YtgmfiljjogdccabGreatDoor
namespace Go.Proofs.YtgmfiljjogdccabGreatDoor
open Go.RowKit
set_option linter.unusedVariables false
def vblk (x : Value) : List Nat := (Value.ownBlock x).toList
/-- Only blocks of a list, and new ones, changed. -/
structure Fr (w v : World) (l : List Nat) : Prop where
 os : v.os = w.os
 tape : v.tape = w.tape
 output : v.output = w.output
 size : w.heap.size ≤ v.heap.size
 block : ∀ b, b < w.heap.size → b ∉ l → v.heap[b]? = w.heap[b]?
theorem Fr.refl (w : World) (l : List Nat) : Fr w w l := ⟨rfl, rfl, rfl, Nat.le_refl _, fun _ _ _ => rfl⟩
theorem Fr.mono {w v : World} {l l' : List Nat} (h : Fr w v l) (hl : ∀ b, b ∈ l → b ∈ l') : Fr w v l' := ⟨h.os, h.tape, h.output, h.size, fun b hb hn => h.block b hb (fun e => hn (hl b e))⟩
/-- What is changed later was in the list, or was new. -/
theorem Fr.late {w u v : World} {l l' : List Nat} (h : Fr w u l) (k : Fr u v l') (hn : ∀ b, b ∈ l' → b ∈ l ∨ w.heap.size ≤ b) : Fr w v l :=
 ⟨k.os.trans h.os, k.tape.trans h.tape, k.output.trans h.output, Nat.le_trans h.size k.size, fun b hb hx => (k.block b (Nat.lt_of_lt_of_le hb h.size) (fun e => by rcases hn b e with q | q; exact hx q; omega)).trans (h.block b hb hx)⟩
theorem Fr.trans {w u v : World} {l : List Nat} (h : Fr w u l) (k : Fr u v l) : Fr w v l := h.late k fun b hb => .inl hb
theorem below_fr {w v : World} (h : Below w.heap.size w v) (l : List Nat) : Fr w v l := ⟨h.os, h.tape, h.output, h.size, fun b hb _ => h.block b hb⟩
theorem touch_fr {w v : World} {g o n : Nat} (h : Touch w v g o n) : Fr w v [g] := ⟨h.os, h.tape, h.output, h.size, fun b hb hn => h.block b hb (fun e => hn (List.mem_singleton.2 e))⟩
theorem grown_fr {w v : World} {x : Option Nat} (h : w.grownBy v x) : Fr w v x.toList := ⟨h.os, h.tape, h.output, h.size, fun b hb hn => h.block b hb (fun e => hn (by rw [← e]; exact List.mem_singleton.2 rfl))⟩
theorem Fr.toBelow {w v : World} {l : List Nat} (h : Fr w v l) {B : Nat} (hl : ∀ b, b ∈ l → B ≤ b) (hB : B ≤ w.heap.size) : Below B w v := ⟨h.os, h.tape, h.output, h.size, fun q hq => h.block q (by omega) (fun e => by have := hl q e; omega)⟩
theorem Fr.none {w v : World} (h : Fr w v []) : Below w.heap.size w v := h.toBelow (fun b hb => by cases hb) (Nat.le_refl _)
theorem set_fr (w : World) (b o : Nat) (x : Value) : Fr w (w.setCell ⟨b, o, none⟩ x) [b] :=
 ⟨rfl, rfl, rfl, by simp [World.setCell], fun q hq hn => World.heap_setCells_other w b o [x] hq (fun e => hn (List.mem_singleton.2 e))⟩
theorem drew_fr (w : World) (n : Nat) (l : List Nat) : Fr w (w.drewN n) l := ⟨rfl, rfl, rfl, Nat.le_refl _, fun _ _ _ => rfl⟩
def Same (w v : World) (l : List Nat) : Prop := ∀ b, b ∈ l → v.heap[b]? = w.heap[b]?
theorem owns_same {w v : World} {B e s n : Nat} {x : Value} {cs : List Value} (h : w.ownsRow B e s x n cs) (hb : Same w v (vblk x)) : v.ownsRow B e s x n cs := by
 refine ⟨h.1, ?_⟩
 rcases h.2 with hn | ⟨g, cap, cur, rfl, h1, h2, r⟩
 ·exact .inl hn
 ·exact .inr ⟨g, cap, cur, rfl, h1, (hb g (by simp [vblk, Value.ownBlock])).trans h2, r⟩
theorem view_keepP {w v : World} {y : Value} {zs : List Int} (h : View w y zs) (hb : zs ≠ [] → ∀ b, b ∈ vblk y → v.heap[b]? = w.heap[b]?) : View v y zs := by
 obtain ⟨a, c, e, h1, h2, h3, h4⟩ := h
 refine ⟨a, c, e, h1, h2, h3, ?_⟩
 rcases h4 with h4 | ⟨b, off, rfl, h5⟩
 ·exact .inl h4
 ·by_cases h0 : zs = []
  ·exact .inl h0
  ·refine .inr ⟨b, off, rfl, fun i hi => ?_⟩
   rw [World.cell?_of_block (a := ⟨b, off + i, none⟩) (hb h0 b (by rw [e]; simp [vblk, Value.ownBlock]))]
   exact h5 i hi
theorem view_blks {w : World} {y : Value} {zs : List Int} (h : View w y zs) (h0 : zs ≠ []) : ∀ b, b ∈ vblk y → b < w.heap.size := by
 obtain ⟨a, c, rfl, h1, h2, h3, h4⟩ := h
 rcases h4 with h4 | ⟨b, off, rfl, h5⟩
 ·exact absurd h4 h0
 ·intro b' hb
  simp [vblk, Value.ownBlock] at hb
  subst hb
  have : 0 < zs.length := List.length_pos_iff.2 h0
  exact World.block_lt_of_cell? w _ (h5 0 this)
theorem owns_blks {w : World} {B e s n : Nat} {x : Value} {cs : List Value} (h : w.ownsRow B e s x n cs) : ∀ b, b ∈ vblk x → B ≤ b ∧ b < w.heap.size := fun b hb => h.lt b (by simpa [vblk] using hb)
end Go.Proofs.YtgmfiljjogdccabGreatDoor
